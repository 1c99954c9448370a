import Derived.Test.YtbnialhpflaoaaaDoorLa
namespace Go.Proofs.YtbnialhpflaoaaaDoor
open Go.RowKit
set_option linter.unusedVariables false
set_option linter.unusedSimpArgs false
set_option maxRecDepth 50000 in
set_option maxHeartbeats 4000000 in
theorem ring_w (a b g : Option Addr) (n c q d r f : Nat) (l k m : List (BitVec 32)) (w : World) (hn : l.length = n) (hm : k.length = q) (ho : m.length = r) (hnc : n ≤ c) (hmd : q ≤ d) (hgf : r ≤ f) (hr : Rw w a l) (hs : Rw w b k) (ht : Rw w g m) (hN : Tb w) :
    Calls Tryd.prog 11 #[.slice a n c, .slice b q d, .slice g r f] w fun e w' => e = .returned (.bool true) ∧ Below w.heap.size w w' := by
  subst hn hm ho
  by_cases hf : (l.length : Int) ≤ 20 ∧ (k.length : Int) ≤ 20
  case neg =>
    have hfew : decide ((l.length : Int) ≤ 20 ∧ (k.length : Int) ≤ 20) = false := by simpa using hf
    go_enter Tryd.func11, Tryd.ntmps11
    go_wp2_with (first
      | (go_at_call 12; (with_reducible refine (few_any a b _ c _ d 20 _).mono ?_); rintro e w0 ⟨rfl, rfl⟩; rw [hfew])
      | (go_at_call 13; (with_reducible refine (example_any _ hN).mono ?_); rintro e w1 ⟨rfl, hb1⟩))
    go_ret
    exact ⟨rfl, hb1⟩
  have hfew : decide ((l.length : Int) ≤ 20 ∧ (k.length : Int) ≤ 20) = true := by simpa using hf
  by_cases hm20 : m.length ≤ 20
  case neg =>
    have hm21 : decide ((20 : Int) < (m.length : Int)) = true := by rw [decide_eq_true_iff]; omega
    go_enter Tryd.func11, Tryd.ntmps11
    go_wp2_with (first
      | (go_at_call 12; (with_reducible refine (few_any a b _ c _ d 20 _).mono ?_); rintro e w0 ⟨rfl, rfl⟩; rw [hfew])
      | (go_at_call 13; (with_reducible refine (example_any _ hN).mono ?_); rintro e w1 ⟨rfl, hb1⟩))
    go_ret
    exact ⟨rfl, hb1⟩
  have hm21 : decide ((20 : Int) < (m.length : Int)) = false := by rw [decide_eq_false_iff_not]; omega
  obtain ⟨hf1, hf2⟩ := hf
  obtain ⟨S, E1⟩ := ex_canon (valD l + valD k)
  obtain ⟨M, E4⟩ := ex_canon (valD l * valD k)
  obtain ⟨X, E7⟩ := ex_canon (valD l * valD m)
  obtain ⟨Y, E8⟩ := ex_canon (valD k * valD m)
  obtain ⟨D, E0⟩ := ex_canon (valD l)
  have vS : valD S = valD l + valD k := by rw [← E1.out, valD_canon]
  have vM : valD M = valD l * valD k := by rw [← E4.out, valD_canon]
  have vX : valD X = valD l * valD m := by rw [← E7.out, valD_canon]
  have vY : valD Y = valD k * valD m := by rw [← E8.out, valD_canon]
  obtain ⟨P, E6⟩ := ex_canon (valD S * valD m)
  obtain ⟨Q, E11⟩ := ex_canon (valD M * valD m)
  have E2 : Hid (canon (valD S - valD k) = D) := by show _ = _; rw [vS, Nat.add_sub_cancel]; exact E0.out
  have E3 : Hid (canon (valD k + valD l) = S) := by show _ = _; rw [Nat.add_comm]; exact E1.out
  have E5 : Hid (canon (valD k * valD l) = M) := by show _ = _; rw [Nat.mul_comm]; exact E4.out
  have E9 : Hid (canon (valD X + valD Y) = P) := by show _ = _; rw [vX, vY, ← Nat.add_mul, ← vS]; exact E6.out
  have E13 : Hid (canon (valD l * valD Y) = Q) := by show _ = _; rw [vY, ← Nat.mul_assoc, ← vM]; exact E11.out
  have E14 : Hid (trimD l = D) := by show _ = _; rw [← canon_val]; exact E0.out
  have hge : valD k ≤ valD S := by rw [vS]; exact Nat.le_add_left _ _
  have fS := fit_add (valD_lt l) (valD_lt k)
  have fM := fit_mul (valD_lt l) (valD_lt k)
  have fX := fit_mul (valD_lt l) (valD_lt m)
  have fY := fit_mul (valD_lt k) (valD_lt m)
  have fP := fit_mul (valD_lt S) (valD_lt m)
  have fQ := fit_mul (valD_lt M) (valD_lt m)
  have fD := trim_len_le l
  rw [E1.out] at fS
  rw [E4.out] at fM
  rw [E7.out] at fX
  rw [E8.out] at fY
  rw [E6.out] at fP
  rw [E11.out] at fQ
  rw [E14.out] at fD
  have hb0 := Below.refl w.heap.size w
  have hz0 := hb0.size
  clear vS vM vX vY E0
  go_enter Tryd.func11, Tryd.ntmps11
  go_wp2_with (first
    | (go_at_call 12; (with_reducible refine (few_any a b _ c _ d 20 _).mono ?_); rintro e w0 ⟨rfl, rfl⟩; rw [hfew])
    | (go_at_call 27; (with_reducible refine (nadd_any a b _ c _ d l k _ rfl rfl hnc hmd (by omega) (by omega) (hr.below hb0) (hs.below hb0)).mono ?_); rintro e w1 ⟨a1, c1, rfl, hc1, hx1, hb1'⟩; have hb1 := hb0.trans (hb1'.mono hz0); have hz1 := hb1.size; have hn1 := hx1.1; rw [E1.out] at hn1 hc1; rw [E1.out]; clear hx1; clear hb1')
    | (go_at_call 25; (with_reducible refine (nsub_any a1 b _ c1 _ d S k _ rfl rfl hc1 hmd (by omega) (by omega) hn1 (hs.below hb1) hge).mono ?_); rintro e w2 ⟨a2, c2, rfl, hc2, hx2, hb2'⟩; have hS1_2 := hn1.below hb2'; have hb2 := hb1.trans (hb2'.mono hz1); have hz2 := hb2.size; have hn2 := hx2.1; rw [E2.out] at hn2 hc2; rw [E2.out]; clear hx2; clear hn1 hb2')
    | (go_at_call 27; (with_reducible refine (nadd_any b a _ d _ c k l _ rfl rfl hmd hnc (by omega) (by omega) (hs.below hb2) (hr.below hb2)).mono ?_); rintro e w3 ⟨a3, c3, rfl, hc3, hx3, hb3'⟩; have hS1_3 := hS1_2.below hb3'; have hD1_3 := hn2.below hb3'; have hb3 := hb2.trans (hb3'.mono hz2); have hz3 := hb3.size; have hn3 := hx3.1; rw [E3.out] at hn3 hc3; rw [E3.out]; clear hx3; clear hS1_2 hn2 hb3')
    | (go_at_call 14; (with_reducible refine (same_yes _ _ _ _ _ _ S S _ rfl rfl (by omega) hS1_3 hn3 rfl).mono ?_); rintro e w4 ⟨rfl, hb4'⟩; have hS1_4 := hS1_3.below hb4'; have hD1_4 := hD1_3.below hb4'; have hS2_4 := hn3.below hb4'; have hb4 := hb3.trans (hb4'.mono hz3); have hz4 := hb4.size; clear hS1_3 hD1_3 hn3 hb4')
    | (go_at_call 29; (with_reducible refine (nmul_any a b _ c _ d l k _ rfl rfl hnc hmd (by omega) (by omega) (hr.below hb4) (hs.below hb4)).mono ?_); rintro e w5 ⟨a5, c5, rfl, hc5, hx5, hb5'⟩; have hS1_5 := hS1_4.below hb5'; have hD1_5 := hD1_4.below hb5'; have hb5 := hb4.trans (hb5'.mono hz4); have hz5 := hb5.size; have hn5 := hx5.1; rw [E4.out] at hn5 hc5; rw [E4.out]; clear hx5; clear hS1_4 hD1_4 hb5')
    | (go_at_call 29; (with_reducible refine (nmul_any b a _ d _ c k l _ rfl rfl hmd hnc (by omega) (by omega) (hs.below hb5) (hr.below hb5)).mono ?_); rintro e w6 ⟨a6, c6, rfl, hc6, hx6, hb6'⟩; have hS1_6 := hS1_5.below hb6'; have hD1_6 := hD1_5.below hb6'; have hM1_6 := hn5.below hb6'; have hb6 := hb5.trans (hb6'.mono hz5); have hz6 := hb6.size; have hn6 := hx6.1; rw [E5.out] at hn6 hc6; rw [E5.out]; clear hx6; clear hS1_5 hD1_5 hn5 hb6')
    | (go_at_call 14; (with_reducible refine (same_yes _ _ _ _ _ _ M M _ rfl rfl (by omega) hM1_6 hn6 rfl).mono ?_); rintro e w7 ⟨rfl, hb7'⟩; have hS1_7 := hS1_6.below hb7'; have hD1_7 := hD1_6.below hb7'; have hM1_7 := hM1_6.below hb7'; have hM2_7 := hn6.below hb7'; have hb7 := hb6.trans (hb7'.mono hz6); have hz7 := hb7.size; clear hS1_6 hD1_6 hM1_6 hn6 hb7')
    | (go_at_call 29; (with_reducible refine (nmul_any a1 g _ c1 _ f S m _ rfl rfl hc1 hgf (by omega) (by omega) hS1_7 (ht.below hb7)).mono ?_); rintro e w8 ⟨a8, c8, rfl, hc8, hx8, hb8'⟩; have hS1_8 := hS1_7.below hb8'; have hD1_8 := hD1_7.below hb8'; have hb8 := hb7.trans (hb8'.mono hz7); have hz8 := hb8.size; have hn8 := hx8.1; rw [E6.out] at hn8 hc8; rw [E6.out]; clear hx8; clear hS1_7 hD1_7 hb8')
    | (go_at_call 29; (with_reducible refine (nmul_any a g _ c _ f l m _ rfl rfl hnc hgf (by omega) (by omega) (hr.below hb8) (ht.below hb8)).mono ?_); rintro e w9 ⟨a9, c9, rfl, hc9, hx9, hb9'⟩; have hD1_9 := hD1_8.below hb9'; have hP1_9 := hn8.below hb9'; have hb9 := hb8.trans (hb9'.mono hz8); have hz9 := hb9.size; have hn9 := hx9.1; rw [E7.out] at hn9 hc9; rw [E7.out]; clear hx9; clear hD1_8 hn8 hb9')
    | (go_at_call 29; (with_reducible refine (nmul_any b g _ d _ f k m _ rfl rfl hmd hgf (by omega) (by omega) (hs.below hb9) (ht.below hb9)).mono ?_); rintro e w10 ⟨a10, c10, rfl, hc10, hx10, hb10'⟩; have hD1_10 := hD1_9.below hb10'; have hP1_10 := hP1_9.below hb10'; have hX1_10 := hn9.below hb10'; have hb10 := hb9.trans (hb10'.mono hz9); have hz10 := hb10.size; have hn10 := hx10.1; rw [E8.out] at hn10 hc10; rw [E8.out]; clear hx10; clear hD1_9 hP1_9 hn9 hb10')
    | (go_at_call 27; (with_reducible refine (nadd_any a9 a10 _ c9 _ c10 X Y _ rfl rfl hc9 hc10 (by omega) (by omega) hX1_10 hn10).mono ?_); rintro e w11 ⟨a11, c11, rfl, hc11, hx11, hb11'⟩; have hD1_11 := hD1_10.below hb11'; have hP1_11 := hP1_10.below hb11'; have hX1_11 := hX1_10.below hb11'; have hY1_11 := hn10.below hb11'; have hb11 := hb10.trans (hb11'.mono hz10); have hz11 := hb11.size; have hn11 := hx11.1; rw [E9.out] at hn11 hc11; rw [E9.out]; clear hx11; clear hD1_10 hP1_10 hX1_10 hn10 hb11')
    | (go_at_call 14; (with_reducible refine (same_yes _ _ _ _ _ _ P P _ rfl rfl (by omega) hP1_11 hn11 rfl).mono ?_); rintro e w12 ⟨rfl, hb12'⟩; have hD1_12 := hD1_11.below hb12'; have hP1_12 := hP1_11.below hb12'; have hP2_12 := hn11.below hb12'; have hb12 := hb11.trans (hb12'.mono hz11); have hz12 := hb12.size; clear hD1_11 hP1_11 hn11 hb12')
    | (go_at_call 29; (with_reducible refine (nmul_any a b _ c _ d l k _ rfl rfl hnc hmd (by omega) (by omega) (hr.below hb12) (hs.below hb12)).mono ?_); rintro e w13 ⟨a13, c13, rfl, hc13, hx13, hb13'⟩; have hD1_13 := hD1_12.below hb13'; have hb13 := hb12.trans (hb13'.mono hz12); have hz13 := hb13.size; have hn13 := hx13.1; rw [E4.out] at hn13 hc13; rw [E4.out]; clear hx13; clear hD1_12 hb13')
    | (go_at_call 29; (with_reducible refine (nmul_any a13 g _ c13 _ f M m _ rfl rfl hc13 hgf (by omega) (by omega) hn13 (ht.below hb13)).mono ?_); rintro e w14 ⟨a14, c14, rfl, hc14, hx14, hb14'⟩; have hD1_14 := hD1_13.below hb14'; have hM3_14 := hn13.below hb14'; have hb14 := hb13.trans (hb14'.mono hz13); have hz14 := hb14.size; have hn14 := hx14.1; rw [E11.out] at hn14 hc14; rw [E11.out]; clear hx14; clear hD1_13 hn13 hb14')
    | (go_at_call 29; (with_reducible refine (nmul_any b g _ d _ f k m _ rfl rfl hmd hgf (by omega) (by omega) (hs.below hb14) (ht.below hb14)).mono ?_); rintro e w15 ⟨a15, c15, rfl, hc15, hx15, hb15'⟩; have hD1_15 := hD1_14.below hb15'; have hQ1_15 := hn14.below hb15'; have hb15 := hb14.trans (hb15'.mono hz14); have hz15 := hb15.size; have hn15 := hx15.1; rw [E8.out] at hn15 hc15; rw [E8.out]; clear hx15; clear hD1_14 hn14 hb15')
    | (go_at_call 29; (with_reducible refine (nmul_any a a15 _ c _ c15 l Y _ rfl rfl hnc hc15 (by omega) (by omega) (hr.below hb15) hn15).mono ?_); rintro e w16 ⟨a16, c16, rfl, hc16, hx16, hb16'⟩; have hD1_16 := hD1_15.below hb16'; have hQ1_16 := hQ1_15.below hb16'; have hY2_16 := hn15.below hb16'; have hb16 := hb15.trans (hb16'.mono hz15); have hz16 := hb16.size; have hn16 := hx16.1; rw [E13.out] at hn16 hc16; rw [E13.out]; clear hx16; clear hD1_15 hQ1_15 hn15 hb16')
    | (go_at_call 14; (with_reducible refine (same_yes _ _ _ _ _ _ Q Q _ rfl rfl (by omega) hQ1_16 hn16 rfl).mono ?_); rintro e w17 ⟨rfl, hb17'⟩; have hD1_17 := hD1_16.below hb17'; have hQ1_17 := hQ1_16.below hb17'; have hQ2_17 := hn16.below hb17'; have hb17 := hb16.trans (hb17'.mono hz16); have hz17 := hb17.size; clear hD1_16 hQ1_16 hn16 hb17')
    | (go_at_call 19; (with_reducible refine (nnorm_any a _ c l _ rfl hnc (by omega) (hr.below hb17)).mono ?_); rintro e w18 ⟨a18, c18, rfl, hx18, hb18'⟩; have hD1_18 := hD1_17.below hb18'; have hb18 := hb17.trans (hb18'.mono hz17); have hz18 := hb18.size; have hn18 := Rw.of_own hx18; rw [E14.out] at hn18; rw [E14.out]; clear hx18; clear hD1_17 hb18')
    | (go_at_call 14; (with_reducible refine (same_yes _ _ _ _ _ _ D D _ rfl rfl (by omega) hD1_18 hn18 rfl).mono ?_); rintro e w19 ⟨rfl, hb19'⟩; have hD1_19 := hD1_18.below hb19'; have hD2_19 := hn18.below hb19'; have hb19 := hb18.trans (hb19'.mono hz18); have hz19 := hb19.size; clear hD1_18 hn18 hb19')
    | (go_at_call 13; (with_reducible refine (example_any _ (hN.below hb19)).mono ?_); rintro e wz ⟨rfl, hbz⟩; have hbe := hb19.trans (hbz.mono hz19)))
  go_ret
  exact ⟨rfl, hbe⟩
end Go.Proofs.YtbnialhpflaoaaaDoor
