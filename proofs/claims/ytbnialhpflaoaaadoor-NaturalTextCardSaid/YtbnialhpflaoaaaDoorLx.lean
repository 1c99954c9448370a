import Derived.Test.YtbnialhpflaoaaaDoorPP
namespace Go.Proofs.YtbnialhpflaoaaaDoor
open Go.RowKit
set_option linter.unusedVariables false
set_option linter.unusedSimpArgs false
theorem str_eq {S T : ByteArray} (h : S.data.toList = T.data.toList) : S = T := by
  apply ByteArray.ext
  exact Array.toList_inj.1 h
theorem dec_len_100 (l : List (BitVec 32)) (h : l.length ≤ 100) : (Lib.decDigits (valD l)).length ≤ 1000 := by
  rcases Nat.eq_zero_or_pos l.length with h0 | h0
  · rw [List.length_eq_zero_iff.1 h0, valD_nil, dec_lt (by omega)]; simp
  · exact Nat.le_trans (big_dec l.length (valD l) (valD_lt l) h0) (by omega)
/-- The text of a row is the text S. -/
theorem nformat_str (a : Option Addr) (n c : Nat) (l : List (BitVec 32)) (S : ByteArray) (w : World) (hn : l.length = n) (hnc : n ≤ c) (hl : n ≤ 90000) (hr : Rw w a l) (hT : Tb w) (hS : S.data.toList = Lib.decDigits (valD l)) :
    Calls Tryd.prog 40 #[.slice a n c] w fun e w' => e = .returned (.string S) ∧ Below w.heap.size w w' := by
  refine (nformat_any a n c l w hn hnc hl hr hT).mono ?_
  rintro e w' ⟨rfl, hb⟩
  refine ⟨?_, hb⟩
  unfold sv
  rw [← hS, Array.toArray_toList]
set_option maxRecDepth 50000 in
set_option maxHeartbeats 4000000 in
theorem round_w (a : Option Addr) (n c : Nat) (l : List (BitVec 32)) (S : ByteArray) (w : World) (hn : l.length = n) (hnc : n ≤ c) (hr : Rw w a l) (hN : Tb w) :
    Calls Tryd.prog 10 #[.slice a n c, .string S] w fun e w' => e = .returned (.bool true) ∧ Below w.heap.size w w' := by
  subst hn
  obtain ⟨ls, hS⟩ : ∃ ls, S.data.toList = ls := ⟨_, rfl⟩
  have hsz := str_size hS
  by_cases hf : l.length ≤ 100
  case neg =>
    have hm1 : decide ((100 : Int) < (l.length : Int)) = true := by rw [decide_eq_true_iff]; omega
    go_enter Tryd.func10, Tryd.ntmps10
    go_wp2_with (go_at_call 13; (with_reducible refine (example_any _ hN).mono ?_); rintro e w1 ⟨rfl, hb1⟩)
    go_ret
    exact ⟨rfl, hb1⟩
  have hm1 : decide ((100 : Int) < (l.length : Int)) = false := by rw [decide_eq_false_iff_not]; omega
  by_cases hg : ls.length ≤ 1100
  case neg =>
    have hm2 : decide ((1100 : Int) < (ls.length : Int)) = true := by rw [decide_eq_true_iff]; omega
    go_enter Tryd.func10, Tryd.ntmps10
    go_wp2_with (go_at_call 13; (with_reducible refine (example_any _ hN).mono ?_); rintro e w1 ⟨rfl, hb1⟩)
    go_ret
    exact ⟨rfl, hb1⟩
  have hm2 : decide ((1100 : Int) < (ls.length : Int)) = false := by rw [decide_eq_false_iff_not]; omega
  have hb0 := Below.refl w.heap.size w
  have hz0 := hb0.size
  obtain ⟨V, hV⟩ : ∃ V, valD l = V := ⟨_, rfl⟩
  have hdl := dec_len_100 l hf
  obtain ⟨SV, hSV⟩ : ∃ SV : ByteArray, SV.data.toList = Lib.decDigits (valD l) := ⟨⟨(Lib.decDigits (valD l)).toArray⟩, rfl⟩
  have hSV2 : SV.data.toList = Lib.decDigits V := by rw [hSV, hV]
  rw [hV] at hdl
  obtain ⟨X, E1⟩ := ex_canon (dv (Lib.decDigits V))
  have E2 : Hid (trimD l = X) := by show _ = _; rw [← E1.out, dv_dec, ← hV, canon_val]
  have fX : X.length ≤ l.length := by rw [← E2.out]; exact trim_len_le l
  have hls : ls.length ≤ 1000000 := by omega
  clear hV
  rcases Bool.eq_false_or_eq_true (isDec ls) with hb | hb
  case inr =>
    go_enter Tryd.func10, Tryd.ntmps10
    go_wp2_with (first
      | (go_at_call 40; (with_reducible refine (nformat_str a _ c l SV _ rfl hnc (by omega) (hr.below hb0) hN hSV).mono ?_); rintro e w1 ⟨rfl, hb1'⟩; have hb1 := hb0.trans (hb1'.mono hz0); have hz1 := hb1.size; clear hb1')
      | (go_at_call 38; (with_reducible refine (nparse_ok SV (Lib.decDigits V) _ hSV2 (dec_isDec V) hdl).mono ?_); rintro e w2 ⟨a2, c2, rfl, hc2, hx2, hb2'⟩; have hb2 := hb1.trans (hb2'.mono hz1); have hz2 := hb2.size; have hn2 := hx2.1; rw [E1.out] at hn2 hc2; rw [E1.out]; clear hx2; clear hb2')
      | (go_at_call 19; (with_reducible refine (nnorm_any a _ c l _ rfl hnc (by omega) (hr.below hb2)).mono ?_); rintro e w3 ⟨a3, c3, rfl, hx3, hb3'⟩; have hX1_3 := hn2.below hb3'; have hb3 := hb2.trans (hb3'.mono hz2); have hz3 := hb3.size; have hn3 := Rw.of_own hx3; have hc3 := own_cap hx3; rw [E2.out] at hn3 hc3; rw [E2.out]; clear hx3; clear hn2 hb3')
      | (go_at_call 14; (with_reducible refine (same_yes _ _ _ _ _ _ X X _ rfl rfl (by omega) hX1_3 hn3 rfl).mono ?_); rintro e w4 ⟨rfl, hb4'⟩; have hX1_4 := hX1_3.below hb4'; have hX2_4 := hn3.below hb4'; have hb4 := hb3.trans (hb4'.mono hz3); have hz4 := hb4.size; clear hX1_3 hn3 hb4')
      | (go_at_call 38; (with_reducible refine (nparse_bad S ls _ hS hls hb).mono ?_); rintro e w5 ⟨rfl, hw5⟩; have hb5' := below_of_eq hw5; clear hw5; have hb5 := hb4.trans (hb5'.mono hz4); have hz5 := hb5.size; clear hb5')
      | (go_at_call 13; (with_reducible refine (example_any _ (hN.below hb5)).mono ?_); rintro e wz ⟨rfl, hbz⟩; have hbe := hb5.trans (hbz.mono hz5)))
    go_ret
    exact ⟨rfl, hbe⟩

  rcases Nat.lt_or_ge 1000 ls.length with hbl | hbl
  · go_enter Tryd.func10, Tryd.ntmps10
    go_wp2_with (first
      | (go_at_call 40; (with_reducible refine (nformat_str a _ c l SV _ rfl hnc (by omega) (hr.below hb0) hN hSV).mono ?_); rintro e w1 ⟨rfl, hb1'⟩; have hb1 := hb0.trans (hb1'.mono hz0); have hz1 := hb1.size; clear hb1')
      | (go_at_call 38; (with_reducible refine (nparse_ok SV (Lib.decDigits V) _ hSV2 (dec_isDec V) hdl).mono ?_); rintro e w2 ⟨a2, c2, rfl, hc2, hx2, hb2'⟩; have hb2 := hb1.trans (hb2'.mono hz1); have hz2 := hb2.size; have hn2 := hx2.1; rw [E1.out] at hn2 hc2; rw [E1.out]; clear hx2; clear hb2')
      | (go_at_call 19; (with_reducible refine (nnorm_any a _ c l _ rfl hnc (by omega) (hr.below hb2)).mono ?_); rintro e w3 ⟨a3, c3, rfl, hx3, hb3'⟩; have hX1_3 := hn2.below hb3'; have hb3 := hb2.trans (hb3'.mono hz2); have hz3 := hb3.size; have hn3 := Rw.of_own hx3; have hc3 := own_cap hx3; rw [E2.out] at hn3 hc3; rw [E2.out]; clear hx3; clear hn2 hb3')
      | (go_at_call 14; (with_reducible refine (same_yes _ _ _ _ _ _ X X _ rfl rfl (by omega) hX1_3 hn3 rfl).mono ?_); rintro e w4 ⟨rfl, hb4'⟩; have hX1_4 := hX1_3.below hb4'; have hX2_4 := hn3.below hb4'; have hb4 := hb3.trans (hb4'.mono hz3); have hz4 := hb4.size; clear hX1_3 hn3 hb4')
      | (go_at_call 38; (with_reducible refine (nparse_long S ls _ hS hls hb hbl).mono ?_); rintro e w5 ⟨rfl, hw5⟩; have hb5' := below_of_eq hw5; clear hw5; have hb5 := hb4.trans (hb5'.mono hz4); have hz5 := hb5.size; clear hb5')
      | (go_at_call 13; (with_reducible refine (example_any _ (hN.below hb5)).mono ?_); rintro e wz ⟨rfl, hbz⟩; have hbe := hb5.trans (hbz.mono hz5)))
    go_ret
    exact ⟨rfl, hbe⟩

  · obtain ⟨Y, E3⟩ := ex_canon (dv ls)
    have I1 : Hid (decide (trimD Y = Y) = true) := by show _ = _; rw [decide_eq_true_iff, ← E3.out, trim_canon]
    have hSY : S.data.toList = Lib.decDigits (valD Y) := by rw [← E3.out, valD_canon, dec_dv hb, hS]
    have fY : Y.length ≤ ls.length := by rw [← E3.out]; exact dv_fit (isDec_digs hb).1
    go_enter Tryd.func10, Tryd.ntmps10
    go_wp2_with (first
      | (go_at_call 40; (with_reducible refine (nformat_str a _ c l SV _ rfl hnc (by omega) (hr.below hb0) hN hSV).mono ?_); rintro e w1 ⟨rfl, hb1'⟩; have hb1 := hb0.trans (hb1'.mono hz0); have hz1 := hb1.size; clear hb1')
      | (go_at_call 38; (with_reducible refine (nparse_ok SV (Lib.decDigits V) _ hSV2 (dec_isDec V) hdl).mono ?_); rintro e w2 ⟨a2, c2, rfl, hc2, hx2, hb2'⟩; have hb2 := hb1.trans (hb2'.mono hz1); have hz2 := hb2.size; have hn2 := hx2.1; rw [E1.out] at hn2 hc2; rw [E1.out]; clear hx2; clear hb2')
      | (go_at_call 19; (with_reducible refine (nnorm_any a _ c l _ rfl hnc (by omega) (hr.below hb2)).mono ?_); rintro e w3 ⟨a3, c3, rfl, hx3, hb3'⟩; have hX1_3 := hn2.below hb3'; have hb3 := hb2.trans (hb3'.mono hz2); have hz3 := hb3.size; have hn3 := Rw.of_own hx3; have hc3 := own_cap hx3; rw [E2.out] at hn3 hc3; rw [E2.out]; clear hx3; clear hn2 hb3')
      | (go_at_call 14; (with_reducible refine (same_yes _ _ _ _ _ _ X X _ rfl rfl (by omega) hX1_3 hn3 rfl).mono ?_); rintro e w4 ⟨rfl, hb4'⟩; have hX1_4 := hX1_3.below hb4'; have hX2_4 := hn3.below hb4'; have hb4 := hb3.trans (hb4'.mono hz3); have hz4 := hb4.size; clear hX1_3 hn3 hb4')
      | (go_at_call 38; (with_reducible refine (nparse_ok S ls _ hS hb hbl).mono ?_); rintro e w5 ⟨a5, c5, rfl, hc5, hx5, hb5'⟩; have hb5 := hb4.trans (hb5'.mono hz4); have hz5 := hb5.size; have hn5 := hx5.1; rw [E3.out] at hn5 hc5; rw [E3.out]; clear hx5; clear hb5')
      | (go_at_call 17; (with_reducible refine (nisnorm_any a5 _ c5 Y _ rfl (by omega) hn5).mono ?_); rintro e wn ⟨rfl, rfl⟩; rw [I1.out])
      | (go_at_call 40; (with_reducible refine (nformat_str a5 _ c5 Y S _ rfl hc5 (by omega) hn5 (hN.below hb5) hSY).mono ?_); rintro e w6 ⟨rfl, hb6'⟩; have hY1_6 := hn5.below hb6'; have hb6 := hb5.trans (hb6'.mono hz5); have hz6 := hb6.size; clear hn5 hb6')
      | (go_at_call 13; (with_reducible refine (example_any _ (hN.below hb6)).mono ?_); rintro e wz ⟨rfl, hbz⟩; have hbe := hb6.trans (hbz.mono hz6)))
    go_ret
    exact ⟨rfl, hbe⟩

end Go.Proofs.YtbnialhpflaoaaaDoor
