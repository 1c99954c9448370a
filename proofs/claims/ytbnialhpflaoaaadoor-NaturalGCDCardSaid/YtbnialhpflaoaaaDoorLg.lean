import Derived.Test.YtbnialhpflaoaaaDoorLs
import Derived.Test.YtbnialhpflaoaaaDoorPI
namespace Go.Proofs.YtbnialhpflaoaaaDoor
open Go.RowKit
set_option linter.unusedVariables false
set_option linter.unusedSimpArgs false
theorem gcd_le_add (x y : Nat) : Nat.gcd x y ≤ x + y := by
  rcases Nat.eq_zero_or_pos x with h | h
  · subst h; rw [Nat.gcd_zero_left]; omega
  · have := Nat.gcd_le_left y h
    omega
theorem fit_le {A B n : Nat} (h : A ≤ B) (hB : B < pw n) : (canon A).length ≤ n := (canon_len_le _ _).2 (Nat.lt_of_le_of_lt h hB)
set_option maxRecDepth 50000 in
set_option maxHeartbeats 4000000 in
theorem gcd_w (a b g : Option Addr) (n c q d r f : Nat) (l k m : List (BitVec 32)) (w : World) (hn : l.length = n) (hm : k.length = q) (ho : m.length = r) (hnc : n ≤ c) (hmd : q ≤ d) (hgf : r ≤ f) (hr : Rw w a l) (hs : Rw w b k) (ht : Rw w g m) (hN : Tb w) :
    Calls Tryd.prog 6 #[.slice a n c, .slice b q d, .slice g r f] w fun e w' => e = .returned (.bool true) ∧ Below w.heap.size w w' := by
  subst hn hm ho
  by_cases hf : (l.length : Int) ≤ 12 ∧ (k.length : Int) ≤ 12
  case neg =>
    have hfew : decide ((l.length : Int) ≤ 12 ∧ (k.length : Int) ≤ 12) = false := by simpa using hf
    go_enter Tryd.func6, Tryd.ntmps6
    go_wp2_with (first
      | (go_at_call 12; (with_reducible refine (few_any a b _ c _ d 12 _).mono ?_); rintro e w0 ⟨rfl, rfl⟩; rw [hfew])
      | (go_at_call 13; (with_reducible refine (example_any _ hN).mono ?_); rintro e w1 ⟨rfl, hb1⟩))
    go_ret
    exact ⟨rfl, hb1⟩
  have hfew : decide ((l.length : Int) ≤ 12 ∧ (k.length : Int) ≤ 12) = true := by simpa using hf
  by_cases hm20 : m.length ≤ 6
  case neg =>
    have hm21 : decide ((6 : Int) < (m.length : Int)) = true := by rw [decide_eq_true_iff]; omega
    go_enter Tryd.func6, Tryd.ntmps6
    go_wp2_with (first
      | (go_at_call 12; (with_reducible refine (few_any a b _ c _ d 12 _).mono ?_); rintro e w0 ⟨rfl, rfl⟩; rw [hfew])
      | (go_at_call 13; (with_reducible refine (example_any _ hN).mono ?_); rintro e w1 ⟨rfl, hb1⟩))
    go_ret
    exact ⟨rfl, hb1⟩
  have hm21 : decide ((6 : Int) < (m.length : Int)) = false := by rw [decide_eq_false_iff_not]; omega
  obtain ⟨hf1, hf2⟩ := hf
  have hb0 := Below.refl w.heap.size w
  have hz0 := hb0.size
  obtain ⟨G, E1⟩ := ex_canon (Nat.gcd (valD l) (valD k))
  have E3 : Hid (canon (Nat.gcd (valD k) (valD l)) = G) := by show _ = _; rw [Nat.gcd_comm]; exact E1.out
  have vG : valD G = Nat.gcd (valD l) (valD k) := by rw [← E1.out, valD_canon]
  have fG : G.length ≤ l.length + k.length + 1 := by
    rw [← E1.out]
    have h1 := gcd_le_add (valD l) (valD k)
    have h2 := fit_add (valD_lt l) (valD_lt k)
    rw [canon_len_le] at h2 ⊢
    omega
  rcases Nat.eq_zero_or_pos (Nat.gcd (valD l) (valD k)) with hg0 | hgp0
  · obtain ⟨h1, h2⟩ := Nat.gcd_eq_zero_iff.1 hg0
    have N1 : Hid (trimD l = []) := by show _ = _; rw [← canon_val, h1, canon_zero]
    have N2 : Hid (trimD k = []) := by show _ = _; rw [← canon_val, h2, canon_zero]
    have hG0 : G = [] := by rw [← E1.out, hg0, canon_zero]
    have HG0 : Hid (G.length = 0) := by show _ = _; rw [hG0]; rfl
    have hgl : ((G.length : Int) == 0) = true := by rw [HG0.out]; rfl
    clear vG hg0 h1 h2 hG0
    go_enter Tryd.func6, Tryd.ntmps6
    go_wp2_with (first
      | (go_at_call 12; (with_reducible refine (few_any a b _ c _ d 12 _).mono ?_); rintro e w0 ⟨rfl, rfl⟩; rw [hfew])
      | (go_at_call 32; (with_reducible refine (ngcd_any a b _ c _ d l k _ rfl rfl hnc hmd (by omega) (by omega) (hr.below hb0) (hs.below hb0)).mono ?_); rintro e w1 ⟨a1, c1, rfl, hc1, hx1, hb1'⟩; have hb1 := hb0.trans (hb1'.mono hz0); have hz1 := hb1.size; have hn1 := hx1.1; rw [E1.out] at hn1 hc1; rw [E1.out]; clear hx1; clear hb1')
      | (go_at_call 33; (with_reducible refine (rgcd_any a b _ c _ d l k _ rfl rfl (by omega) (by omega) (hr.below hb1) (hs.below hb1)).mono ?_); rintro e w2 ⟨a2, c2, rfl, hn2, hb2'⟩; have hG1_2 := hn1.below hb2'; have hb2 := hb1.trans (hb2'.mono hz1); have hz2 := hb2.size; rw [E1.out] at hn2; rw [E1.out]; clear hn1 hb2')
      | (go_at_call 14; (with_reducible refine (same_yes _ _ _ _ _ _ G G _ rfl rfl (by omega) hG1_2 hn2 rfl).mono ?_); rintro e w3 ⟨rfl, hb3'⟩; have hG1_3 := hG1_2.below hb3'; have hG2_3 := hn2.below hb3'; have hb3 := hb2.trans (hb3'.mono hz2); have hz3 := hb3.size; clear hG1_2 hn2 hb3')
      | (go_at_call 32; (with_reducible refine (ngcd_any b a _ d _ c k l _ rfl rfl hmd hnc (by omega) (by omega) (hs.below hb3) (hr.below hb3)).mono ?_); rintro e w4 ⟨a4, c4, rfl, hc4, hx4, hb4'⟩; have hG1_4 := hG1_3.below hb4'; have hb4 := hb3.trans (hb4'.mono hz3); have hz4 := hb4.size; have hn4 := hx4.1; rw [E3.out] at hn4 hc4; rw [E3.out]; clear hx4; clear hG1_3 hb4')
      | (go_at_call 14; (with_reducible refine (same_yes _ _ _ _ _ _ G G _ rfl rfl (by omega) hG1_4 hn4 rfl).mono ?_); rintro e w5 ⟨rfl, hb5'⟩; have hG1_5 := hG1_4.below hb5'; have hG3_5 := hn4.below hb5'; have hb5 := hb4.trans (hb5'.mono hz4); have hz5 := hb5.size; clear hG1_4 hn4 hb5')
      | (go_at_call 19; (with_reducible refine (nnorm_any a _ c l _ rfl hnc (by omega) (hr.below hb5)).mono ?_); rintro e w6 ⟨a6, c6, rfl, hx6, hb6'⟩; have hG1_6 := hG1_5.below hb6'; have hb6 := hb5.trans (hb6'.mono hz5); have hz6 := hb6.size; have hn6 := Rw.of_own hx6; have hc6 := own_cap hx6; rw [N1.out] at hn6 hc6; rw [N1.out]; clear hx6; clear hG1_5 hb6')
      | (go_at_call 19; (with_reducible refine (nnorm_any b _ d k _ rfl hmd (by omega) (hs.below hb6)).mono ?_); rintro e w7 ⟨a7, c7, rfl, hx7, hb7'⟩; have hG1_7 := hG1_6.below hb7'; have hb7 := hb6.trans (hb7'.mono hz6); have hz7 := hb7.size; have hn7 := Rw.of_own hx7; have hc7 := own_cap hx7; rw [N2.out] at hn7 hc7; rw [N2.out]; clear hx7; clear hG1_6 hb7')
      | (go_at_call 13; (with_reducible refine (example_any _ (hN.below hb7)).mono ?_); rintro e wz ⟨rfl, hbz⟩; have hbe := hb7.trans (hbz.mono hz7)))
    go_ret
    exact ⟨rfl, hbe⟩
  have hgp : 0 < valD G := by rw [vG]; exact hgp0
  have hgl0 : 0 < G.length := by
    have h := canon_len_pos hgp
    rw [← E1.out, valD_canon, E1.out] at h
    exact h
  have hgl : ((G.length : Int) == 0) = false := by rw [beq_eq_false_iff_ne]; omega
  obtain ⟨X, E4⟩ := ex_canon (valD l / valD G)
  obtain ⟨Y, E5⟩ := ex_canon (valD k / valD G)
  have vX : valD X = valD l / Nat.gcd (valD l) (valD k) := by rw [← E4.out, valD_canon, vG]
  have vY : valD Y = valD k / Nat.gcd (valD l) (valD k) := by rw [← E5.out, valD_canon, vG]
  have Z4 : Hid (canon (valD l % valD G) = []) := by show _ = _; rw [vG, Nat.mod_eq_zero_of_dvd (Nat.gcd_dvd_left _ _), canon_zero]
  have Z5 : Hid (canon (valD k % valD G) = []) := by show _ = _; rw [vG, Nat.mod_eq_zero_of_dvd (Nat.gcd_dvd_right _ _), canon_zero]
  obtain ⟨O, hO⟩ : ∃ O, O = [1#32] := ⟨_, rfl⟩
  have E6 : Hid (canon (Nat.gcd (valD X) (valD Y)) = O) := by show _ = _; rw [vX, vY, Nat.gcd_div (Nat.gcd_dvd_left _ _) (Nat.gcd_dvd_right _ _), Nat.div_self hgp0, hO, canon_one (by decide) (by decide)]
  have hO1 : O.length = 1 := by rw [hO]; rfl
  have hlit : ∀ W : World, Rw (W.alloc (.cells #[Value.int IntKind.u32 1] 39)) (some ⟨W.heap.size, 0, none⟩) O := fun W => hO ▸ Rw.of_alloc rfl rfl
  obtain ⟨A, E7⟩ := ex_canon (valD l * valD m)
  obtain ⟨B, E8⟩ := ex_canon (valD k * valD m)
  have vA : valD A = valD l * valD m := by rw [← E7.out, valD_canon]
  have vB : valD B = valD k * valD m := by rw [← E8.out, valD_canon]
  obtain ⟨H, E10⟩ := ex_canon (valD G * valD m)
  have E9 : Hid (canon (Nat.gcd (valD A) (valD B)) = H) := by show _ = _; rw [vA, vB, Nat.gcd_mul_right, ← vG]; exact E10.out
  have fX := fit_le (Nat.div_le_self (valD l) (valD G)) (valD_lt l)
  have fY := fit_le (Nat.div_le_self (valD k) (valD G)) (valD_lt k)
  have fA := fit_mul (valD_lt l) (valD_lt m)
  have fB := fit_mul (valD_lt k) (valD_lt m)
  have fH := fit_mul (valD_lt G) (valD_lt m)
  rw [E4.out] at fX
  rw [E5.out] at fY
  rw [E7.out] at fA
  rw [E8.out] at fB
  rw [E10.out] at fH
  clear vG vX vY vA vB hO hgp0 hgl0
  go_enter Tryd.func6, Tryd.ntmps6
  go_wp2_with (first
    | (go_at_call 12; (with_reducible refine (few_any a b _ c _ d 12 _).mono ?_); rintro e w0 ⟨rfl, rfl⟩; rw [hfew])
    | (go_at_call 32; (with_reducible refine (ngcd_any a b _ c _ d l k _ rfl rfl hnc hmd (by omega) (by omega) (hr.below hb0) (hs.below hb0)).mono ?_); rintro e w1 ⟨a1, c1, rfl, hc1, hx1, hb1'⟩; have hb1 := hb0.trans (hb1'.mono hz0); have hz1 := hb1.size; have hn1 := hx1.1; rw [E1.out] at hn1 hc1; rw [E1.out]; clear hx1; clear hb1')
    | (go_at_call 33; (with_reducible refine (rgcd_any a b _ c _ d l k _ rfl rfl (by omega) (by omega) (hr.below hb1) (hs.below hb1)).mono ?_); rintro e w2 ⟨a2, c2, rfl, hn2, hb2'⟩; have hG1_2 := hn1.below hb2'; have hb2 := hb1.trans (hb2'.mono hz1); have hz2 := hb2.size; rw [E1.out] at hn2; rw [E1.out]; clear hn1 hb2')
    | (go_at_call 14; (with_reducible refine (same_yes _ _ _ _ _ _ G G _ rfl rfl (by omega) hG1_2 hn2 rfl).mono ?_); rintro e w3 ⟨rfl, hb3'⟩; have hG1_3 := hG1_2.below hb3'; have hG2_3 := hn2.below hb3'; have hb3 := hb2.trans (hb3'.mono hz2); have hz3 := hb3.size; clear hG1_2 hn2 hb3')
    | (go_at_call 32; (with_reducible refine (ngcd_any b a _ d _ c k l _ rfl rfl hmd hnc (by omega) (by omega) (hs.below hb3) (hr.below hb3)).mono ?_); rintro e w4 ⟨a4, c4, rfl, hc4, hx4, hb4'⟩; have hG1_4 := hG1_3.below hb4'; have hb4 := hb3.trans (hb4'.mono hz3); have hz4 := hb4.size; have hn4 := hx4.1; rw [E3.out] at hn4 hc4; rw [E3.out]; clear hx4; clear hG1_3 hb4')
    | (go_at_call 14; (with_reducible refine (same_yes _ _ _ _ _ _ G G _ rfl rfl (by omega) hG1_4 hn4 rfl).mono ?_); rintro e w5 ⟨rfl, hb5'⟩; have hG1_5 := hG1_4.below hb5'; have hG3_5 := hn4.below hb5'; have hb5 := hb4.trans (hb5'.mono hz4); have hz5 := hb5.size; clear hG1_4 hn4 hb5')
    | (go_at_call 31; (with_reducible refine (ndm_any a a1 _ c _ c1 l G _ rfl rfl hnc hc1 (by omega) (by omega) (hr.below hb5) hG1_5 hgp).mono ?_); rintro e w6 ⟨a6, c6, x6, d6, rfl, hc6, hd6, hx6, hy6, hb6'⟩; have hG1_6 := hG1_5.below hb6'; have hb6 := hb5.trans (hb6'.mono hz5); have hz6 := hb6.size; have hn6 := hx6.1; have hm6 := hy6.1; rw [E4.out] at hn6 hc6; rw [Z4.out] at hm6 hd6; rw [E4.out, Z4.out]; clear hx6 hy6; clear hG1_5 hb6')
    | (go_at_call 31; (with_reducible refine (ndm_any b a1 _ d _ c1 k G _ rfl rfl hmd hc1 (by omega) (by omega) (hs.below hb6) hG1_6 hgp).mono ?_); rintro e w7 ⟨a7, c7, x7, d7, rfl, hc7, hd7, hx7, hy7, hb7'⟩; have hG1_7 := hG1_6.below hb7'; have hX1_7 := hn6.below hb7'; have hb7 := hb6.trans (hb7'.mono hz6); have hz7 := hb7.size; have hn7 := hx7.1; have hm7 := hy7.1; rw [E5.out] at hn7 hc7; rw [Z5.out] at hm7 hd7; rw [E5.out, Z5.out]; clear hx7 hy7; clear hG1_6 hn6 hb7')
    | (go_at_call 32; (with_reducible refine (ngcd_any a6 a7 _ c6 _ c7 X Y _ rfl rfl hc6 hc7 (by omega) (by omega) hX1_7 hn7).mono ?_); rintro e w8 ⟨a8, c8, rfl, hc8, hx8, hb8'⟩; have hG1_8 := hG1_7.below hb8'; have hX1_8 := hX1_7.below hb8'; have hY1_8 := hn7.below hb8'; have hb8 := hb7.trans (hb8'.mono hz7); have hz8 := hb8.size; have hn8 := hx8.1; rw [E6.out] at hn8 hc8; rw [E6.out]; clear hx8; clear hG1_7 hX1_7 hn7 hb8')
    | (go_at_call 14; (with_reducible refine (same_yes _ _ _ _ _ _ O O _ hO1 hO1 (by omega) (hn8.below (Below.alloc (Below.refl _ _) (Nat.le_refl _) _)) (hlit _) rfl).mono ?_); rintro e w9 ⟨rfl, hb9'⟩; have hb9'' := (Below.alloc (Below.refl w8.heap.size w8) (Nat.le_refl _) (.cells #[Value.int IntKind.u32 1] 39)).trans (hb9'.mono (by simp)); have hG1_9 := hG1_8.below hb9''; have hb9 := hb8.trans (hb9''.mono hz8); have hz9 := hb9.size)
    | (go_at_call 29; (with_reducible refine (nmul_any a g _ c _ f l m _ rfl rfl hnc hgf (by omega) (by omega) (hr.below hb9) (ht.below hb9)).mono ?_); rintro e w10 ⟨a10, c10, rfl, hc10, hx10, hb10'⟩; have hG1_10 := hG1_9.below hb10'; have hb10 := hb9.trans (hb10'.mono hz9); have hz10 := hb10.size; have hn10 := hx10.1; rw [E7.out] at hn10 hc10; rw [E7.out]; clear hx10; clear hG1_9 hb10')
    | (go_at_call 29; (with_reducible refine (nmul_any b g _ d _ f k m _ rfl rfl hmd hgf (by omega) (by omega) (hs.below hb10) (ht.below hb10)).mono ?_); rintro e w11 ⟨a11, c11, rfl, hc11, hx11, hb11'⟩; have hG1_11 := hG1_10.below hb11'; have hA1_11 := hn10.below hb11'; have hb11 := hb10.trans (hb11'.mono hz10); have hz11 := hb11.size; have hn11 := hx11.1; rw [E8.out] at hn11 hc11; rw [E8.out]; clear hx11; clear hG1_10 hn10 hb11')
    | (go_at_call 32; (with_reducible refine (ngcd_any a10 a11 _ c10 _ c11 A B _ rfl rfl hc10 hc11 (by omega) (by omega) hA1_11 hn11).mono ?_); rintro e w12 ⟨a12, c12, rfl, hc12, hx12, hb12'⟩; have hG1_12 := hG1_11.below hb12'; have hA1_12 := hA1_11.below hb12'; have hB1_12 := hn11.below hb12'; have hb12 := hb11.trans (hb12'.mono hz11); have hz12 := hb12.size; have hn12 := hx12.1; rw [E9.out] at hn12 hc12; rw [E9.out]; clear hx12; clear hG1_11 hA1_11 hn11 hb12')
    | (go_at_call 29; (with_reducible refine (nmul_any a1 g _ c1 _ f G m _ rfl rfl hc1 hgf (by omega) (by omega) hG1_12 (ht.below hb12)).mono ?_); rintro e w13 ⟨a13, c13, rfl, hc13, hx13, hb13'⟩; have hG1_13 := hG1_12.below hb13'; have hH1_13 := hn12.below hb13'; have hb13 := hb12.trans (hb13'.mono hz12); have hz13 := hb13.size; have hn13 := hx13.1; rw [E10.out] at hn13 hc13; rw [E10.out]; clear hx13; clear hG1_12 hn12 hb13')
    | (go_at_call 14; (with_reducible refine (same_yes _ _ _ _ _ _ H H _ rfl rfl (by omega) hH1_13 hn13 rfl).mono ?_); rintro e w14 ⟨rfl, hb14'⟩; have hH1_14 := hH1_13.below hb14'; have hH2_14 := hn13.below hb14'; have hb14 := hb13.trans (hb14'.mono hz13); have hz14 := hb14.size; clear hH1_13 hn13 hb14')
    | (go_at_call 13; (with_reducible refine (example_any _ (hN.below hb14)).mono ?_); rintro e wz ⟨rfl, hbz⟩; have hbe := hb14.trans (hbz.mono hz14)))
  go_ret
  exact ⟨rfl, hbe⟩
end Go.Proofs.YtbnialhpflaoaaaDoor
