import Derived.Test.YtbnialhpflaoaaaDoorPB
namespace Go.Proofs.YtbnialhpflaoaaaDoor
open Go.RowKit
set_option linter.unusedVariables false
set_option linter.unusedSimpArgs false
def shV (V : Nat) (v : Int) : Nat := if 0 ≤ v then V * 2 ^ (min v.toNat 4096) else V / 2 ^ v.natAbs
theorem nshift_any (a : Option Addr) (n c : Nat) (v : Int) (l : List (BitVec 32)) (w : World) (hn : l.length = n) (hnc : n ≤ c) (hl : n ≤ 1000000) (hr : Rw w a l) (hv0 : -9223372036854775808 ≤ v) :
    Calls Tryd.prog 34 #[.slice a n c, .int .i64 v] w (FrR w (canon (shV (valD l) v))) := by
  by_cases h : 0 ≤ v
  · unfold shV
    rw [if_pos h]
    exact nshl_core a n c (min v.toNat 4096) _ _ v l w hn hnc hl hr h (Nat.min_le_right _ _) (by omega) rfl rfl
  · subst hn
    have f1 := trim_len_le l
    have hrt := hr.trim
    have T1 : ∀ W, Rw W a l → Calls Tryd.prog 43 #[.slice a l.length c] W fun e w' => e = .returned (.slice a (trimD l).length c) ∧ W = w' := fun W h => trim_any a _ c l W rfl hnc (by omega) h
    have H1 := Lib.hid (T1 w hr)
    unfold shV
    rw [if_neg h, ← valD_trim l]
    clear T1 hr
    generalize trimD l = lt at *
    have H2 := Lib.hid (nshr_core a _ c v.natAbs _ _ v lt w rfl (by omega) hrt (by omega) (by omega) (by omega) rfl rfl)
    have hlt : decide (v < 0) = true := by rw [decide_eq_true_iff]; omega
    obtain ⟨s, hs⟩ : ∃ s, v.natAbs = s := ⟨_, rfl⟩
    rw [hs] at H2 ⊢
    clear hs
    go_enter Tryd.func34, Tryd.ntmps34
    go_wp2_with (first
      | (go_at_call 43; (with_reducible refine H1.out.mono ?_); rintro e w1 ⟨rfl, rfl⟩)
      | (go_at_call 52; (with_reducible refine H2.out.mono ?_); rintro e w2 ⟨a1, c1, rfl, h2, h3, h4⟩))
    go_ret
    exact ⟨a1, c1, rfl, h2, h3, h4⟩
theorem rshift_any (a : Option Addr) (n c : Nat) (v : Int) (l : List (BitVec 32)) (w : World) (hn : l.length = n) (hl : n ≤ 1000000) (hr : Rw w a l) :
    Calls Tryd.prog 35 #[.slice a n c, .int .i64 v] w (FrW w (canon (shV (valD l) v))) := by
  by_cases h : 0 ≤ v
  · obtain ⟨k, rfl⟩ : ∃ k : Nat, v = (k : Int) := ⟨v.toNat, by omega⟩
    unfold shV
    rw [if_pos h, Int.toNat_natCast]
    exact rsh_up a n c k l w hn hl hr
  · unfold shV
    rw [if_neg h]
    by_cases h2 : v.natAbs ≤ 32 * n
    · obtain ⟨s, rfl⟩ : ∃ s : Nat, v = -(s : Int) := ⟨v.natAbs, by omega⟩
      rw [Int.natAbs_neg, Int.natAbs_natCast] at *
      exact rsh_dn a n c s l w hn hl (by omega) h2 hr
    · exact rsh_out a n c v l w hn hl (by omega) hr
theorem pow_le_pw (e m : Nat) (h : e ≤ 32 * m) : 2 ^ e ≤ pw m := by
  rw [pw_two]
  exact Nat.pow_le_pow_right (by decide) h
theorem fit_sh {V n : Nat} (h : V < pw n) (v : Int) : (canon (shV V v)).length ≤ n + 128 := by
  rw [canon_len_le]
  unfold shV
  split
  · rw [pw_add]
    refine Nat.lt_of_lt_of_le (Nat.mul_lt_mul_of_pos_right h (Nat.two_pow_pos _)) (Nat.mul_le_mul_left _ ?_)
    exact pow_le_pw _ 128 (Nat.le_trans (Nat.min_le_right _ _) (by omega))
  · refine Nat.lt_of_le_of_lt (Nat.div_le_self _ _) (Nat.lt_of_lt_of_le h (pw_mono (by omega)))
theorem sh_back (V K : Nat) (hK : K ≤ 4096) : shV (shV V (K : Int)) (-(K : Int)) = V := by
  have h1 : shV V (K : Int) = V * 2 ^ K := by
    unfold shV
    rw [if_pos (by omega), Int.toNat_natCast, Nat.min_eq_left hK]
  rw [h1]
  unfold shV
  split
  · have : K = 0 := by omega
    subst this
    simp
  · rw [Int.natAbs_neg, Int.natAbs_natCast, Nat.mul_div_cancel _ (Nat.two_pow_pos K)]
set_option maxRecDepth 50000 in
set_option maxHeartbeats 4000000 in
theorem shift_w (a : Option Addr) (n c k : Nat) (v : Int) (l : List (BitVec 32)) (w : World) (hn : l.length = n) (hnc : n ≤ c) (hr : Rw w a l) (hk : k < 65536) (hv0 : -9223372036854775808 ≤ v) (hN : Tb w) :
    Calls Tryd.prog 7 #[.slice a n c, .int .i64 v, .int .u16 k] w fun e w' => e = .returned (.bool true) ∧ Below w.heap.size w w' := by
  subst hn
  by_cases hm : l.length ≤ 60
  case neg =>
    have hm1 : decide ((60 : Int) < (l.length : Int)) = true := by rw [decide_eq_true_iff]; omega
    go_enter Tryd.func7, Tryd.ntmps7
    go_wp2_with (go_at_call 13; (with_reducible refine (example_any _ hN).mono ?_); rintro e w1 ⟨rfl, hb1⟩)
    go_ret
    exact ⟨rfl, hb1⟩
  have hm1 : decide ((60 : Int) < (l.length : Int)) = false := by rw [decide_eq_false_iff_not]; omega
  obtain ⟨K, hKe⟩ : ∃ K, k % 4097 = K := ⟨_, rfl⟩
  have hK : K ≤ 4096 := by omega
  have k1 : (k : Int) % 4097 = (K : Int) := by omega
  have k2 : (k : Int).tmod 4097 = (K : Int) := by rw [Int.tmod_eq_emod_of_nonneg (by omega)]; omega
  have hK0 : -9223372036854775808 ≤ (K : Int) := by omega
  have hK1 : -9223372036854775808 ≤ -(K : Int) := by omega
  obtain ⟨U, E1⟩ := ex_canon (shV (valD l) (K : Int))
  obtain ⟨E, E2⟩ := ex_canon (shV (valD l) v)
  obtain ⟨D, E4⟩ : ∃ D, Hid (trimD l = D) := ⟨_, rfl⟩
  have vU : valD U = shV (valD l) (K : Int) := by rw [← E1.out, valD_canon]
  have E3 : Hid (canon (shV (valD U) (-(K : Int))) = D) := by show _ = _; rw [vU, sh_back _ _ hK, canon_val]; exact E4.out
  have fU := fit_sh (valD_lt l) (K : Int)
  have fE := fit_sh (valD_lt l) v
  have fD := trim_len_le l
  rw [E1.out] at fU
  rw [E2.out] at fE
  rw [E4.out] at fD
  have hb0 := Below.refl w.heap.size w
  have hz0 := hb0.size
  clear vU hKe
  go_enter Tryd.func7, Tryd.ntmps7
  go_wp2_with (first
    | (go_at_call 34; (with_reducible refine (nshift_any a _ c (K : Int) l _ rfl hnc (by omega) (hr.below hb0) hK0).mono ?_); rintro e w1 ⟨a1, c1, rfl, hc1, hx1, hb1'⟩; have hb1 := hb0.trans (hb1'.mono hz0); have hz1 := hb1.size; have hn1 := hx1.1; rw [E1.out] at hn1 hc1; rw [E1.out]; clear hx1; clear hb1')
    | (go_at_call 34; (with_reducible refine (nshift_any a _ c v l _ rfl hnc (by omega) (hr.below hb1) hv0).mono ?_); rintro e w2 ⟨a2, c2, rfl, hc2, hx2, hb2'⟩; have hU1_2 := hn1.below hb2'; have hb2 := hb1.trans (hb2'.mono hz1); have hz2 := hb2.size; have hn2 := hx2.1; rw [E2.out] at hn2 hc2; rw [E2.out]; clear hx2; clear hn1 hb2')
    | (go_at_call 35; (with_reducible refine (rshift_any a _ c v l _ rfl (by omega) (hr.below hb2)).mono ?_); rintro e w3 ⟨a3, c3, rfl, hx3, hb3'⟩; have hU1_3 := hU1_2.below hb3'; have hX1_3 := hn2.below hb3'; have hb3 := hb2.trans (hb3'.mono hz2); have hz3 := hb3.size; have hn3 := Rw.of_own hx3; rw [E2.out] at hn3; rw [E2.out]; clear hx3; clear hU1_2 hn2 hb3')
    | (go_at_call 14; (with_reducible refine (same_yes _ _ _ _ _ _ E E _ rfl rfl (by omega) hX1_3 hn3 rfl).mono ?_); rintro e w4 ⟨rfl, hb4'⟩; have hU1_4 := hU1_3.below hb4'; have hX1_4 := hX1_3.below hb4'; have hX2_4 := hn3.below hb4'; have hb4 := hb3.trans (hb4'.mono hz3); have hz4 := hb4.size; clear hU1_3 hX1_3 hn3 hb4')
    | (go_at_call 34; (with_reducible refine (nshift_any a1 _ c1 (-(K : Int)) U _ rfl hc1 (by omega) hU1_4 hK1).mono ?_); rintro e w5 ⟨a5, c5, rfl, hc5, hx5, hb5'⟩; have hU1_5 := hU1_4.below hb5'; have hb5 := hb4.trans (hb5'.mono hz4); have hz5 := hb5.size; have hn5 := hx5.1; rw [E3.out] at hn5 hc5; rw [E3.out]; clear hx5; clear hU1_4 hb5')
    | (go_at_call 19; (with_reducible refine (nnorm_any a _ c l _ rfl hnc (by omega) (hr.below hb5)).mono ?_); rintro e w6 ⟨a6, c6, rfl, hx6, hb6'⟩; have hU1_6 := hU1_5.below hb6'; have hD1_6 := hn5.below hb6'; have hb6 := hb5.trans (hb6'.mono hz5); have hz6 := hb6.size; have hn6 := Rw.of_own hx6; rw [E4.out] at hn6; rw [E4.out]; clear hx6; clear hU1_5 hn5 hb6')
    | (go_at_call 14; (with_reducible refine (same_yes _ _ _ _ _ _ D D _ rfl rfl (by omega) hD1_6 hn6 rfl).mono ?_); rintro e w7 ⟨rfl, hb7'⟩; have hU1_7 := hU1_6.below hb7'; have hD1_7 := hD1_6.below hb7'; have hD2_7 := hn6.below hb7'; have hb7 := hb6.trans (hb7'.mono hz6); have hz7 := hb7.size; clear hU1_6 hD1_6 hn6 hb7')
    | (go_at_call 35; (with_reducible refine (rshift_any a _ c (K : Int) l _ rfl (by omega) (hr.below hb7)).mono ?_); rintro e w8 ⟨a8, c8, rfl, hx8, hb8'⟩; have hU1_8 := hU1_7.below hb8'; have hb8 := hb7.trans (hb8'.mono hz7); have hz8 := hb8.size; have hn8 := Rw.of_own hx8; rw [E1.out] at hn8; rw [E1.out]; clear hx8; clear hU1_7 hb8')
    | (go_at_call 14; (with_reducible refine (same_yes _ _ _ _ _ _ U U _ rfl rfl (by omega) hU1_8 hn8 rfl).mono ?_); rintro e w9 ⟨rfl, hb9'⟩; have hU1_9 := hU1_8.below hb9'; have hU2_9 := hn8.below hb9'; have hb9 := hb8.trans (hb9'.mono hz8); have hz9 := hb9.size; clear hU1_8 hn8 hb9')
    | (go_at_call 13; (with_reducible refine (example_any _ (hN.below hb9)).mono ?_); rintro e wz ⟨rfl, hbz⟩; have hbe := hb9.trans (hbz.mono hz9)))
  go_ret
  exact ⟨rfl, hbe⟩
end Go.Proofs.YtbnialhpflaoaaaDoor
