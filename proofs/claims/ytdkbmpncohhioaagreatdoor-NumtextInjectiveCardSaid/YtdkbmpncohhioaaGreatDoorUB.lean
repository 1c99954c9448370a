
import Derived.Test.YtdkbmpncohhioaaGreatDoorUA
import Derived.Test.YtdkbmpncohhioaaGreatDoorU6
import Derived.BigQuiet
import Derived.StillTailTactics
import Derived.Test.YtdkbmpncohhioaaGreatDoorU7
/- Z5 -/
namespace Go.Proofs.YtdkbmpncohhioaaGreatDoor
open Go.RowKit
set_option linter.unusedVariables false
set_option linter.unusedSimpArgs false
attribute [local go_sem ↓] Go.wp_at_zero Go.wp_at_succ
theorem zdec_any (s : Bool) (a : Option Addr) (n c : Nat) (l : List (BitVec 32)) (w : World) (hn : l.length = n) (hc : n ≤ c) (hl : n ≤ 1000000) (hr : Rw w a l) :
    Calls Tryz.prog 49 #[.agg #[.bool s, .slice a n c]] w fun e w' => ∃ a' c' l', e = .returned (.tuple #[.int .i64 (zv s (valD l)).sign, .slice a' l'.length c']) ∧ l'.length ≤ c' ∧ l'.length ≤ n ∧ valD l' = valD l ∧ Rw w' a' l' ∧ Below w.heap.size w w' := by
  subst hn
  have hb0 := Below.alloc (Below.refl w.heap.size w) (Nat.le_refl _) (.cells #[Value.bool s, Value.slice a l.length c] 31)
  rcases Nat.eq_zero_or_pos (valD l) with h0 | h0
  · have HZ := Lib.hid h0
    clear h0
    go_enter Tryz.func49, Tryz.ntmps49
    go_wp2_with (go_at_call 50; (with_reducible refine (nbl_any a _ c l _ rfl hc hl (hr.below hb0)).mono ?_); rintro e w1 ⟨b, rfl, hbl, rfl⟩; have hb00 : b = 0 := hbl.2.1 HZ.out; subst hb00; clear hbl)
    go_ret2
    exact ⟨none, 0, [], by rw [HZ.out, zv_zero]; rfl, Nat.le_refl _, Nat.zero_le _, by rw [HZ.out]; rfl, Rw.nil _ _, hb0⟩
  · have HP := Lib.hid h0
    have hraf := hr.below hb0
    clear h0
    cases s
    · have hsg : Hid ((zv false (valD l)).sign = 1) := by
        have := HP.out
        show _ = _
        rw [← sgV_sign, sgV, if_neg (by omega)]; rfl
      go_enter Tryz.func49, Tryz.ntmps49
      go_wp2_with (go_at_call 50; (with_reducible refine (nbl_any a _ c l _ rfl hc hl (hr.below hb0)).mono ?_); rintro e w1 ⟨b, rfl, hbl, rfl⟩; have hb1 : ((b : Int) == 0) = false := by { have := (hbl.2.2 HP.out).1; rw [beq_eq_false_iff_ne]; omega }; have hb2 : (b == 0) = false := by { have := (hbl.2.2 HP.out).1; rw [beq_eq_false_iff_ne]; omega }; clear hbl)
      go_quiet (fail)
      go_wp2
      go_ret2
      exact ⟨a, c, l, by rw [hsg.out]; rfl, hc, Nat.le_refl _, rfl, hraf.drewN _, below_drewN hb0 _⟩
    · have hsg : Hid ((zv true (valD l)).sign = (-1)) := by
        have := HP.out
        show _ = _
        rw [← sgV_sign, sgV, if_neg (by omega)]; rfl
      go_enter Tryz.func49, Tryz.ntmps49
      go_wp2_with (go_at_call 50; (with_reducible refine (nbl_any a _ c l _ rfl hc hl (hr.below hb0)).mono ?_); rintro e w1 ⟨b, rfl, hbl, rfl⟩; have hb1 : ((b : Int) == 0) = false := by { have := (hbl.2.2 HP.out).1; rw [beq_eq_false_iff_ne]; omega }; have hb2 : (b == 0) = false := by { have := (hbl.2.2 HP.out).1; rw [beq_eq_false_iff_ne]; omega }; clear hbl)
      go_quiet (fail)
      go_wp2
      go_ret2
      exact ⟨a, c, l, by rw [hsg.out]; rfl, hc, Nat.le_refl _, rfl, hraf.drewN _, below_drewN hb0 _⟩
theorem zsign_any (s : Bool) (a : Option Addr) (n c : Nat) (l : List (BitVec 32)) (w : World) (hn : l.length = n) (hc : n ≤ c) (hl : n ≤ 1000000) (hr : Rw w a l) :
    Calls Tryz.prog 30 #[.agg #[.bool s, .slice a n c]] w fun e w' => e = .returned (.int .i64 (zv s (valD l)).sign) ∧ Below w.heap.size w w' := by
  subst hn
  have hb0 := Below.alloc (Below.refl w.heap.size w) (Nat.le_refl _) (.cells #[Value.bool s, Value.slice a l.length c] 31)
  go_enter Tryz.func30, Tryz.ntmps30
  go_wp2_with (go_at_call 49; (with_reducible refine (zdec_any s a _ c l _ rfl hc hl (hr.below hb0)).mono ?_); rintro e w1 ⟨a1, c1, l1, rfl, h1, h2, h3, hr1, hc1⟩; have hbw := hb0.trans (hc1.mono hb0.size))
  go_ret
  exact ⟨rfl, hbw⟩
/-- What IsNormalized answers. -/
def isnV (s : Bool) (l : List (BitVec 32)) : Bool := decide (trimD l = l) && !(s && decide (l.length = 0))
theorem trim_last (l : List (BitVec 32)) (h : 0 < l.length) : decide (trimD l = l) = !(decide (l[l.length - 1] = 0#32)) := by
  by_cases hz : l[l.length - 1] = 0#32
  · have hq : decide (trimD l = l) = false := by
      rw [decide_eq_false_iff_not]
      intro e
      have h2 := last_split l h
      rw [hz] at h2
      have h3 := trim_snoc0 (l.take (l.length - 1))
      rw [← h2, e] at h3
      have h4 := congrArg List.length h3
      have h5 := trim_len_le (l.take (l.length - 1))
      rw [List.length_take] at h5
      omega
    rw [hq, hz]; rfl
  · have hq : decide (trimD l = l) = true := by
      rw [decide_eq_true_iff]
      have h2 := last_split l h
      have h3 := trim_snoc (l.take (l.length - 1)) _ hz
      rwa [← h2] at h3
    rw [hq, show decide (l[l.length - 1] = 0#32) = false by simpa using hz]; rfl
theorem sign_ite (z : Int) : z.sign = if z < 0 then -1 else if z = 0 then 0 else 1 := by
  split
  · rename_i h; exact Int.sign_eq_neg_one_of_neg h
  · split
    · rename_i h; rw [h]; rfl
    · exact Int.sign_eq_one_of_pos (by omega)
theorem zcmp_lt {x y : Int} (h : x.sign < y.sign) : (x - y).sign = -1 := by
  simp only [sign_ite] at *; repeat' split at h
  all_goals first | omega | (rw [if_pos (by omega)])
theorem zcmp_gt {x y : Int} (h : y.sign < x.sign) : (x - y).sign = 1 := by
  simp only [sign_ite] at *; repeat' split at h
  all_goals first | omega | (rw [if_neg (by omega), if_neg (by omega)])
theorem zcmp_eq {x y : Int} (h : x.sign = y.sign) : x.sign * cmpN x.natAbs y.natAbs = (x - y).sign := by
  simp only [sign_ite, cmpN] at *
  repeat' split
  all_goals first | omega | rfl | (repeat' split at h) <;> omega
theorem cmpN_abs (x y : Nat) : cmpN x y = -1 ∨ cmpN x y = 0 ∨ cmpN x y = 1 := by
  unfold cmpN; repeat' split
  all_goals omega
theorem sign_abs (x : Int) : x.sign = -1 ∨ x.sign = 0 ∨ x.sign = 1 := by
  rw [sign_ite]; repeat' split
  all_goals omega
set_option maxRecDepth 50000 in
theorem zcmp_any (s t : Bool) (a b : Option Addr) (n c m d : Nat) (l k : List (BitVec 32)) (w : World) (hn : l.length = n) (hm : k.length = m) (hc : n ≤ c) (hd : m ≤ d) (hl : n ≤ 400000) (hl2 : m ≤ 400000) (hr : Rw w a l) (hs : Rw w b k) :
    Calls Tryz.prog 33 #[.agg #[.bool s, .slice a n c], .agg #[.bool t, .slice b m d]] w fun e w' => e = .returned (.int .i64 (zv s (valD l) - zv t (valD k)).sign) ∧ Below w.heap.size w w' := by
  subst hn hm
  have hb1 := Below.alloc (Below.refl w.heap.size w) (Nat.le_refl _) (.cells #[Value.bool s, Value.slice a l.length c] 31)
  have hb2 := Below.alloc hb1 (by simp) (.cells #[Value.bool t, Value.slice b k.length d] 31)
  have hz2 := hb2.size
  obtain ⟨x, hx⟩ : ∃ x, zv s (valD l) = x := ⟨_, rfl⟩
  obtain ⟨y, hy⟩ : ∃ y, zv t (valD k) = y := ⟨_, rfl⟩
  have Hx := Lib.hid hx
  have Hy := Lib.hid hy
  have Hxa : Hid (valD l = x.natAbs) := by show _ = _; rw [← hx, zv_abs]
  have Hya : Hid (valD k = y.natAbs) := by show _ = _; rw [← hy, zv_abs]
  rw [hx, hy]
  clear hx hy
  obtain ⟨sx, hsx⟩ : ∃ v, x.sign = v := ⟨_, rfl⟩
  obtain ⟨sy, hsy⟩ : ∃ v, y.sign = v := ⟨_, rfl⟩
  have Hsx := Lib.hid hsx
  have Hsy := Lib.hid hsy
  have hcase : (decide (sx < sy) = true ∧ Hid ((x - y).sign = -1)) ∨ (decide (sx < sy) = false ∧ decide (sy < sx) = true ∧ Hid ((x - y).sign = 1)) ∨ (sx = sy ∧ Hid (sx * cmpN x.natAbs y.natAbs = (x - y).sign)) := by
    rw [← hsx, ← hsy]
    rcases Int.lt_trichotomy x.sign y.sign with h | h | h
    · exact .inl ⟨by simpa using h, zcmp_lt h⟩
    · exact .inr (.inr ⟨h, zcmp_eq h⟩)
    · exact .inr (.inl ⟨by simp; omega, by simpa using h, zcmp_gt h⟩)
  have hab := sign_abs x
  rw [hsx] at hab
  clear hsx hsy
  obtain ⟨r, hr0⟩ : ∃ r, cmpN x.natAbs y.natAbs = r := ⟨_, rfl⟩
  have hrb := cmpN_abs x.natAbs y.natAbs
  rw [hr0] at hrb hcase
  have Hr := Lib.hid hr0
  clear hr0
  rcases hcase with ⟨h1, hv⟩ | ⟨h1, h2, hv⟩ | ⟨rfl, hv⟩
  · go_enter Tryz.func33, Tryz.ntmps33
    go_wp2_with (first | (go_at_call 49; (with_reducible refine (zdec_any s a _ c l _ rfl hc (by omega) (hr.below hb2)).mono ?_); rintro e w1 ⟨a1, c1, l1, rfl, i1, j1, v1, hr1, hc1⟩; have hv1 := Lib.hid v1; clear v1; have k1_q_0 : w1.cell? ⟨(w.heap.size + 1), 0, none⟩ = some (.bool t) := bcs hc1 (by first | with_reducible assumption | go_simp); have g1_q_0 : w1.frozen? ⟨(w.heap.size + 1), 0, none⟩ = false := bfs hc1 (v := .bool t) (by first | with_reducible assumption | go_simp) (by first | with_reducible assumption | go_simp); have k1_q_1 : w1.cell? ⟨(w.heap.size + 1), 1, none⟩ = some (.slice b k.length d) := bcs hc1 (by first | with_reducible assumption | go_simp); have g1_q_1 : w1.frozen? ⟨(w.heap.size + 1), 1, none⟩ = false := bfs hc1 (v := .slice b k.length d) (by first | with_reducible assumption | go_simp) (by first | with_reducible assumption | go_simp); have x1_q : ¬ (w.heap.size + 1) = w1.heap.size := qne k1_q_0; have y1_q : ¬ w1.heap.size = (w.heap.size + 1) := fun h => qne k1_q_0 h.symm; have q1_q : (w.heap.size + 1) < w1.heap.size := qlt k1_q_0; have hbw1 := hb2.trans (hc1.mono hz2); have hz1 := hbw1.size; clear hc1; rw [Hx.out, Hsx.out]) | (go_at_call 49; (with_reducible refine (zdec_any t b _ d k _ rfl hd (by omega) (hs.below hbw1)).mono ?_); rintro e w2 ⟨a2, c2, l2, rfl, i2, j2, v2, hr2, hc2⟩; have hv2 := Lib.hid v2; clear v2; have hr12 := hr1.below hc2; have hbw2 := hbw1.trans (hc2.mono hz1); have hz2' := hbw2.size; clear hc2; rw [Hy.out, Hsy.out]))
    go_ret
    exact ⟨by rw [hv.out]; rfl, hbw2⟩
  · go_enter Tryz.func33, Tryz.ntmps33
    go_wp2_with (first | (go_at_call 49; (with_reducible refine (zdec_any s a _ c l _ rfl hc (by omega) (hr.below hb2)).mono ?_); rintro e w1 ⟨a1, c1, l1, rfl, i1, j1, v1, hr1, hc1⟩; have hv1 := Lib.hid v1; clear v1; have k1_q_0 : w1.cell? ⟨(w.heap.size + 1), 0, none⟩ = some (.bool t) := bcs hc1 (by first | with_reducible assumption | go_simp); have g1_q_0 : w1.frozen? ⟨(w.heap.size + 1), 0, none⟩ = false := bfs hc1 (v := .bool t) (by first | with_reducible assumption | go_simp) (by first | with_reducible assumption | go_simp); have k1_q_1 : w1.cell? ⟨(w.heap.size + 1), 1, none⟩ = some (.slice b k.length d) := bcs hc1 (by first | with_reducible assumption | go_simp); have g1_q_1 : w1.frozen? ⟨(w.heap.size + 1), 1, none⟩ = false := bfs hc1 (v := .slice b k.length d) (by first | with_reducible assumption | go_simp) (by first | with_reducible assumption | go_simp); have x1_q : ¬ (w.heap.size + 1) = w1.heap.size := qne k1_q_0; have y1_q : ¬ w1.heap.size = (w.heap.size + 1) := fun h => qne k1_q_0 h.symm; have q1_q : (w.heap.size + 1) < w1.heap.size := qlt k1_q_0; have hbw1 := hb2.trans (hc1.mono hz2); have hz1 := hbw1.size; clear hc1; rw [Hx.out, Hsx.out]) | (go_at_call 49; (with_reducible refine (zdec_any t b _ d k _ rfl hd (by omega) (hs.below hbw1)).mono ?_); rintro e w2 ⟨a2, c2, l2, rfl, i2, j2, v2, hr2, hc2⟩; have hv2 := Lib.hid v2; clear v2; have hr12 := hr1.below hc2; have hbw2 := hbw1.trans (hc2.mono hz1); have hz2' := hbw2.size; clear hc2; rw [Hy.out, Hsy.out]))
    go_ret
    exact ⟨by rw [hv.out]; rfl, hbw2⟩
  · have h1 : decide (sx < sx) = false := by simp
    have hw : IntKind.i64.wrap (sx * r) = sx * r := by
      rw [IntKind.wrap_i64]; rcases hab with h | h | h <;> rcases hrb with h' | h' | h' <;> subst h h' <;> rfl
    clear hab hrb
    go_enter Tryz.func33, Tryz.ntmps33
    go_wp2_with (first | (go_at_call 49; (with_reducible refine (zdec_any s a _ c l _ rfl hc (by omega) (hr.below hb2)).mono ?_); rintro e w1 ⟨a1, c1, l1, rfl, i1, j1, v1, hr1, hc1⟩; have hv1 := Lib.hid v1; clear v1; have k1_q_0 : w1.cell? ⟨(w.heap.size + 1), 0, none⟩ = some (.bool t) := bcs hc1 (by first | with_reducible assumption | go_simp); have g1_q_0 : w1.frozen? ⟨(w.heap.size + 1), 0, none⟩ = false := bfs hc1 (v := .bool t) (by first | with_reducible assumption | go_simp) (by first | with_reducible assumption | go_simp); have k1_q_1 : w1.cell? ⟨(w.heap.size + 1), 1, none⟩ = some (.slice b k.length d) := bcs hc1 (by first | with_reducible assumption | go_simp); have g1_q_1 : w1.frozen? ⟨(w.heap.size + 1), 1, none⟩ = false := bfs hc1 (v := .slice b k.length d) (by first | with_reducible assumption | go_simp) (by first | with_reducible assumption | go_simp); have x1_q : ¬ (w.heap.size + 1) = w1.heap.size := qne k1_q_0; have y1_q : ¬ w1.heap.size = (w.heap.size + 1) := fun h => qne k1_q_0 h.symm; have q1_q : (w.heap.size + 1) < w1.heap.size := qlt k1_q_0; have hbw1 := hb2.trans (hc1.mono hz2); have hz1 := hbw1.size; clear hc1; rw [Hx.out, Hsx.out]) | (go_at_call 49; (with_reducible refine (zdec_any t b _ d k _ rfl hd (by omega) (hs.below hbw1)).mono ?_); rintro e w2 ⟨a2, c2, l2, rfl, i2, j2, v2, hr2, hc2⟩; have hv2 := Lib.hid v2; clear v2; have hr12 := hr1.below hc2; have hbw2 := hbw1.trans (hc2.mono hz1); have hz2' := hbw2.size; clear hc2; rw [Hy.out, Hsy.out]) | (go_at_call 59; (with_reducible refine (ncmp_any a1 a2 _ c1 _ c2 l1 l2 _ rfl rfl i1 i2 (by omega) (by omega) hr12 hr2).mono ?_); rintro e w3 ⟨rfl, hw3⟩; have hb3 := drew_below hw3; have hbw3 := hbw2.trans (hb3.mono hz2'); clear hw3 hb3; rw [hv1.out, hv2.out, Hxa.out, Hya.out, Hr.out]))
    go_ret
    exact ⟨by rw [← hv.out]; rfl, hbw3⟩
end Go.Proofs.YtdkbmpncohhioaaGreatDoor

/- Z6 -/
namespace Go.Proofs.YtdkbmpncohhioaaGreatDoor
open Go.RowKit
set_option linter.unusedVariables false
set_option linter.unusedSimpArgs false
attribute [local go_sem ↓] Go.wp_at_zero Go.wp_at_succ
/- floor division of integers, by their magnitudes -/
theorem opp_iff {x y : Int} : x.sign * y.sign < 0 ↔ (x < 0 ∧ 0 < y) ∨ (0 < x ∧ y < 0) := by
  rcases Int.lt_trichotomy x 0 with h | h | h <;> rcases Int.lt_trichotomy y 0 with h' | h' | h'
  · rw [Int.sign_eq_neg_one_of_neg h, Int.sign_eq_neg_one_of_neg h']; omega
  · subst h'; simp
  · rw [Int.sign_eq_neg_one_of_neg h, Int.sign_eq_one_of_pos h']; omega
  · subst h; simp
  · subst h; simp
  · subst h; simp
  · rw [Int.sign_eq_one_of_pos h, Int.sign_eq_neg_one_of_neg h']; omega
  · subst h'; simp
  · rw [Int.sign_eq_one_of_pos h, Int.sign_eq_one_of_pos h']; omega
theorem fdm_same {x y : Int} (hy : y ≠ 0) (h : ¬ x.sign * y.sign < 0) : x.fdiv y = zv false (x.natAbs / y.natAbs) ∧ x.fmod y = zv (decide (y < 0)) (x.natAbs % y.natAbs) := by
  have e := Nat.div_add_mod x.natAbs y.natAbs
  have hlt := Nat.mod_lt x.natAbs (show 0 < y.natAbs by omega)
  rw [opp_iff] at h
  generalize x.natAbs / y.natAbs = Q at *
  generalize x.natAbs % y.natAbs = M at *
  obtain ⟨Y, hY⟩ : ∃ Y, y.natAbs = Y := ⟨_, rfl⟩
  obtain ⟨X, hX⟩ : ∃ X, x.natAbs = X := ⟨_, rfl⟩
  rw [hY] at e hlt
  rw [hX] at e
  have e2 : (Y : Int) * Q + M = X := by rw [← e]; simp
  rcases Int.lt_or_gt_of_ne hy with h1 | h1
  · rw [show decide (y < 0) = true by simpa using h1]
    have e3 : y = -(Y : Int) := by omega
    refine (Int.fdiv_fmod_unique' h1).2 ⟨?_, ?_, ?_⟩
    · simp only [zv, if_true, Bool.false_eq_true, if_false]
      rw [e3, Int.neg_mul]; omega
    · simp only [zv, if_true]; omega
    · simp only [zv, if_true]; omega
  · rw [show decide (y < 0) = false from decide_eq_false_iff_not.2 (by omega)]
    have e3 : y = (Y : Int) := by omega
    refine (Int.fdiv_fmod_unique h1).2 ⟨?_, ?_, ?_⟩
    · simp only [zv, Bool.false_eq_true, if_false]
      rw [e3]; omega
    · simp only [zv, Bool.false_eq_true, if_false]; omega
    · simp only [zv, Bool.false_eq_true, if_false]; omega
theorem fdm_opp {x y : Int} (h : x.sign * y.sign < 0) (q r : Nat) (hqr : (x.natAbs % y.natAbs = 0 ∧ q = x.natAbs / y.natAbs ∧ r = 0) ∨ (0 < x.natAbs % y.natAbs ∧ q = x.natAbs / y.natAbs + 1 ∧ r = y.natAbs - x.natAbs % y.natAbs)) : x.fdiv y = zv true q ∧ x.fmod y = zv (decide (y < 0)) r := by
  have hy : y ≠ 0 := by rintro rfl; simp at h
  have e := Nat.div_add_mod x.natAbs y.natAbs
  have hlt := Nat.mod_lt x.natAbs (show 0 < y.natAbs by omega)
  rw [opp_iff] at h
  generalize x.natAbs / y.natAbs = Q at *
  generalize x.natAbs % y.natAbs = M at *
  have e4 : y.natAbs * q = x.natAbs + r := by
    rcases hqr with ⟨h1, rfl, rfl⟩ | ⟨h1, rfl, rfl⟩
    · omega
    · rw [Nat.mul_add]; omega
  have hr : r < y.natAbs := by omega
  clear e hqr hlt
  obtain ⟨Y, hY⟩ : ∃ Y, y.natAbs = Y := ⟨_, rfl⟩
  obtain ⟨X, hX⟩ : ∃ X, x.natAbs = X := ⟨_, rfl⟩
  rw [hY] at e4 hr
  rw [hX] at e4
  have e2 : (Y : Int) * q = X + r := by rw [← Int.natCast_mul, e4]; simp
  rcases Int.lt_or_gt_of_ne hy with h1 | h1
  · rw [show decide (y < 0) = true by simpa using h1]
    have e3 : y = -(Y : Int) := by omega
    refine (Int.fdiv_fmod_unique' h1).2 ⟨?_, ?_, ?_⟩
    · simp only [zv, if_true]
      rw [e3, Int.neg_mul, Int.mul_neg, e2]; omega
    · simp only [zv, if_true]; omega
    · simp only [zv, if_true]; omega
  · rw [show decide (y < 0) = false from decide_eq_false_iff_not.2 (by omega)]
    have e3 : y = (Y : Int) := by omega
    refine (Int.fdiv_fmod_unique h1).2 ⟨?_, ?_, ?_⟩
    · simp only [zv, if_true, Bool.false_eq_true, if_false]
      rw [e3, Int.mul_neg, e2]; omega
    · simp only [zv, Bool.false_eq_true, if_false]; omega
    · simp only [zv, Bool.false_eq_true, if_false]; omega
/-- The nearest integer, ties away from zero. -/
def drZ (x y : Int) : Int := zv (decide (x.sign * y.sign < 0)) ((x.natAbs + x.natAbs + y.natAbs) / (y.natAbs + y.natAbs))
theorem quo_num2 {X C q r : Nat} (hC : 0 < C) (hX : C * q + r = X) (hr : r < C) : (X + X + C) / (C + C) = if C ≤ r * 2 then q + 1 else q := by
  have e : X + X + C = (C + C) * q + (2 * r + C) := by rw [← hX, Nat.add_mul]; omega
  rw [e, Nat.mul_add_div (by omega)]
  split
  · rw [show (2 * r + C) / (C + C) = 1 from ?_]
    rw [Nat.div_eq_iff (by omega)]
    omega
  · rw [show (2 * r + C) / (C + C) = 0 from Nat.div_eq_of_lt (by omega)]
    rfl
theorem sign_prod (s t : Bool) (K L : Nat) : decide ((zv s K).sign * (zv t L).sign < 0) = ((s != t) && decide (0 < K) && decide (0 < L)) := by
  rw [Bool.eq_iff_iff, decide_eq_true_iff, opp_iff]
  cases s <;> cases t <;> simp [zv] <;> omega
theorem sign_prod_abs (x y : Int) : x.sign * y.sign = -1 ∨ x.sign * y.sign = 0 ∨ x.sign * y.sign = 1 := by
  rcases sign_abs x with h | h | h <;> rcases sign_abs y with h' | h' | h' <;> rw [h, h'] <;> simp
/-- Quotient and remainder are answered, each in a row of its own. -/
def DmZ (w : World) (q r : Int) (e : Ending) (w' : World) : Prop := ∃ a1 c1 a2 c2, e = .returned (.tuple #[.agg #[.bool (decide (q < 0)), .slice a1 (canon q.natAbs).length c1], .agg #[.bool (decide (r < 0)), .slice a2 (canon r.natAbs).length c2], .int .i64 0]) ∧
  w'.ownsRow w.heap.size 42 1 (.slice a1 (canon q.natAbs).length c1) (canon q.natAbs).length (bv32 (canon q.natAbs)) ∧ w'.ownsRow w.heap.size 42 1 (.slice a2 (canon r.natAbs).length c2) (canon r.natAbs).length (bv32 (canon r.natAbs)) ∧ Below w.heap.size w w'
theorem fit_abs {l : List (BitVec 32)} {n : Nat} (h : l.length ≤ n) : (canon (valD l)).length ≤ n := by rw [canon_val]; exact Nat.le_trans (trim_len_le l) h
theorem canon_mono {x y n : Nat} (h : x ≤ y) (hy : (canon y).length ≤ n) : (canon x).length ≤ n := by rw [canon_len_le] at hy ⊢; omega
theorem canon_succ {x n : Nat} (hy : (canon x).length ≤ n) : (canon (x + 1)).length ≤ n + 1 := by
  rw [canon_len_le] at hy ⊢
  rw [pw_succ]
  have : 1 ≤ pw n := Nat.one_le_iff_ne_zero.2 (by have := pw_mono (Nat.zero_le n); rw [pw_zero] at this; omega)
  omega
theorem one_bv : (bv32 [1#32]) = [Value.int .u32 1] := by rfl
theorem val_one : valD [1#32] = 1 := by simp [valD_cons, valD_nil]
end Go.Proofs.YtdkbmpncohhioaaGreatDoor

/- Z7 -/
namespace Go.Proofs.YtdkbmpncohhioaaGreatDoor
open Go.RowKit
set_option linter.unusedVariables false
set_option linter.unusedSimpArgs false
attribute [local go_sem ↓] Go.wp_at_zero Go.wp_at_succ
end Go.Proofs.YtdkbmpncohhioaaGreatDoor

/- Z8 -/
namespace Go.Proofs.YtdkbmpncohhioaaGreatDoor
open Go.RowKit
set_option linter.unusedVariables false
set_option linter.unusedSimpArgs false
attribute [local go_sem ↓] Go.wp_at_zero Go.wp_at_succ
theorem shV_one (M : Nat) : shV M 1 = M * 2 := by simp [shV]
/-- One integer and no error are answered. -/
def DrZ (w : World) (q : Int) (e : Ending) (w' : World) : Prop := ∃ a1 c1, e = .returned (.tuple #[.agg #[.bool (decide (q < 0)), .slice a1 (canon q.natAbs).length c1], .int .i64 0]) ∧
  w'.ownsRow w.heap.size 42 1 (.slice a1 (canon q.natAbs).length c1) (canon q.natAbs).length (bv32 (canon q.natAbs)) ∧ Below w.heap.size w w'
end Go.Proofs.YtdkbmpncohhioaaGreatDoor

