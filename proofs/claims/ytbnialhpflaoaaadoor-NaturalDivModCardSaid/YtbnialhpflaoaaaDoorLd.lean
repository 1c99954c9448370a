import Derived.Test.YtbnialhpflaoaaaDoorLs
import Derived.Test.YtbnialhpflaoaaaDoorPG
namespace Go.Proofs.YtbnialhpflaoaaaDoor
open Go.RowKit
set_option linter.unusedVariables false
set_option linter.unusedSimpArgs false
set_option maxRecDepth 50000 in
set_option maxHeartbeats 4000000 in
theorem divmod_w (a b : Option Addr) (n c q d : Nat) (l k : List (BitVec 32)) (w : World) (hn : l.length = n) (hm : k.length = q) (hnc : n ≤ c) (hmd : q ≤ d) (hr : Rw w a l) (hs : Rw w b k) (hN : Tb w) :
    Calls Tryd.prog 5 #[.slice a n c, .slice b q d] w fun e w' => e = .returned (.bool true) ∧ Below w.heap.size w w' := by
  subst hn hm
  by_cases hf : (l.length : Int) ≤ 60 ∧ (k.length : Int) ≤ 60
  case neg =>
    have hfew : decide ((l.length : Int) ≤ 60 ∧ (k.length : Int) ≤ 60) = false := by simpa using hf
    go_enter Tryd.func5, Tryd.ntmps5
    go_wp2_with (first
      | (go_at_call 12; (with_reducible refine (few_any a b _ c _ d 60 _).mono ?_); rintro e w0 ⟨rfl, rfl⟩; rw [hfew])
      | (go_at_call 13; (with_reducible refine (example_any _ hN).mono ?_); rintro e w1 ⟨rfl, hb1⟩))
    go_ret
    exact ⟨rfl, hb1⟩
  have hfew : decide ((l.length : Int) ≤ 60 ∧ (k.length : Int) ≤ 60) = true := by simpa using hf
  obtain ⟨hf1, hf2⟩ := hf
  have hb0 := Below.refl w.heap.size w
  have hz0 := hb0.size
  rcases Nat.eq_zero_or_pos (valD k) with h0 | hpos
  · have hk0 : Hid (trimD k = []) := by show _ = _; rw [← canon_val, h0, canon_zero]
    go_enter Tryd.func5, Tryd.ntmps5
    go_wp2_with (first
      | (go_at_call 12; (with_reducible refine (few_any a b _ c _ d 60 _).mono ?_); rintro e w0 ⟨rfl, rfl⟩; rw [hfew])
      | (go_at_call 31; (with_reducible refine (ndm_zero a b _ c _ d l k _ rfl rfl hnc hmd (by omega) (by omega) hr hs h0).mono ?_); rintro e w0 ⟨rfl, rfl⟩)
      | (go_at_call 19; (with_reducible refine (nnorm_any b _ d k _ rfl hmd (by omega) hs).mono ?_); rintro e w1 ⟨a1, c1, rfl, hx1, hb1⟩; rw [hk0.out])
      | (go_at_call 13; (with_reducible refine (example_any _ (hN.below hb1)).mono ?_); rintro e w2 ⟨rfl, hb2⟩; have hbe := hb1.trans (hb2.mono hb1.size)))
    go_ret
    exact ⟨rfl, hbe⟩
  obtain ⟨Q, E1⟩ := ex_canon (valD l / valD k)
  obtain ⟨Z, E2⟩ := ex_canon (valD l % valD k)
  obtain ⟨T, E3⟩ : ∃ D, Hid (trimD k = D) := ⟨_, rfl⟩
  have vQ : valD Q = valD l / valD k := by rw [← E1.out, valD_canon]
  have vZ : valD Z = valD l % valD k := by rw [← E2.out, valD_canon]
  have hTl : 0 < T.length := by
    have h := canon_len_pos hpos
    rw [canon_val, E3.out] at h
    exact h
  have hT0 : ((T.length : Int) == 0) = false := by rw [beq_eq_false_iff_ne]; omega
  have I1 : Hid (decide (trimD Q = Q) = true) := by show _ = _; rw [decide_eq_true_iff, ← E1.out, trim_canon]
  have I2 : Hid (decide (trimD Z = Z) = true) := by show _ = _; rw [decide_eq_true_iff, ← E2.out, trim_canon]
  have C1 : Hid (cmpN (valD Z) (valD k) = -1) := cmpN_lt (by rw [vZ]; exact Nat.mod_lt _ hpos)
  obtain ⟨M, E4⟩ := ex_canon (valD Q * valD k)
  have vM : valD M = valD Q * valD k := by rw [← E4.out, valD_canon]
  obtain ⟨A, E5⟩ := ex_canon (valD M + valD Z)
  have vA : valD A = valD l := by rw [← E5.out, valD_canon, vM, vQ, vZ, Nat.mul_comm]; exact Nat.div_add_mod _ _
  have C2 : Hid (cmpN (valD A) (valD l) = 0) := by show _ = _; rw [vA, cmpN_eq]
  have fQ : Q.length ≤ l.length := by rw [← E1.out, canon_len_le]; exact Nat.lt_of_le_of_lt (Nat.div_le_self _ _) (valD_lt l)
  have fZ : Z.length ≤ l.length := by rw [← E2.out, canon_len_le]; exact Nat.lt_of_le_of_lt (Nat.mod_le _ _) (valD_lt l)
  have fT := trim_len_le k
  have fM := fit_mul (valD_lt Q) (valD_lt k)
  have fA : A.length ≤ l.length := by
    have h := (canon_len_le (valD A) l.length).2 (by rw [vA]; exact valD_lt l)
    rwa [← E5.out, valD_canon, E5.out] at h
  rw [E3.out] at fT
  rw [E4.out] at fM
  clear vQ vZ vM vA hTl
  go_enter Tryd.func5, Tryd.ntmps5
  go_wp2_with (first
    | (go_at_call 12; (with_reducible refine (few_any a b _ c _ d 60 _).mono ?_); rintro e w0 ⟨rfl, rfl⟩; rw [hfew])
    | (go_at_call 31; (with_reducible refine (ndm_any a b _ c _ d l k _ rfl rfl hnc hmd (by omega) (by omega) (hr.below hb0) (hs.below hb0) hpos).mono ?_); rintro e w1 ⟨a1, c1, x1, d1, rfl, hc1, hd1, hx1, hy1, hb1'⟩; have hb1 := hb0.trans (hb1'.mono hz0); have hz1 := hb1.size; have hn1 := hx1.1; have hm1 := hy1.1; rw [E1.out] at hn1 hc1; rw [E2.out] at hm1 hd1; rw [E1.out, E2.out]; clear hx1 hy1; clear hb1')
    | (go_at_call 19; (with_reducible refine (nnorm_any b _ d k _ rfl hmd (by omega) (hs.below hb1)).mono ?_); rintro e w2 ⟨a2, c2, rfl, hx2, hb2'⟩; have hQ1_2 := hn1.below hb2'; have hZ1_2 := hm1.below hb2'; have hb2 := hb1.trans (hb2'.mono hz1); have hz2 := hb2.size; have hn2 := Rw.of_own hx2; have hc2 := own_cap hx2; rw [E3.out] at hn2 hc2; rw [E3.out]; clear hx2; clear hn1 hm1 hb2')
    | (go_at_call 17; (with_reducible refine (nisnorm_any a1 _ c1 Q _ rfl (by omega) hQ1_2).mono ?_); rintro e wn ⟨rfl, rfl⟩; rw [I1.out])
    | (go_at_call 17; (with_reducible refine (nisnorm_any x1 _ d1 Z _ rfl (by omega) hZ1_2).mono ?_); rintro e wn ⟨rfl, rfl⟩; rw [I2.out])
    | (go_at_call 21; (with_reducible refine (ncmp_any x1 b _ d1 _ d Z k _ rfl rfl hd1 hmd (by omega) (by omega) hZ1_2 (hs.below hb2)).mono ?_); rintro e w3 ⟨rfl, hd3⟩; have hb3' := drew_below hd3; clear hd3; have hQ1_3 := hQ1_2.below hb3'; have hZ1_3 := hZ1_2.below hb3'; have hb3 := hb2.trans (hb3'.mono hz2); have hz3 := hb3.size; rw [C1.out]; clear hQ1_2 hZ1_2 hb3')
    | (go_at_call 29; (with_reducible refine (nmul_any a1 b _ c1 _ d Q k _ rfl rfl hc1 hmd (by omega) (by omega) hQ1_3 (hs.below hb3)).mono ?_); rintro e w4 ⟨a4, c4, rfl, hc4, hx4, hb4'⟩; have hQ1_4 := hQ1_3.below hb4'; have hZ1_4 := hZ1_3.below hb4'; have hb4 := hb3.trans (hb4'.mono hz3); have hz4 := hb4.size; have hn4 := hx4.1; rw [E4.out] at hn4 hc4; rw [E4.out]; clear hx4; clear hQ1_3 hZ1_3 hb4')
    | (go_at_call 27; (with_reducible refine (nadd_any a4 x1 _ c4 _ d1 M Z _ rfl rfl hc4 hd1 (by omega) (by omega) hn4 hZ1_4).mono ?_); rintro e w5 ⟨a5, c5, rfl, hc5, hx5, hb5'⟩; have hZ1_5 := hZ1_4.below hb5'; have hM1_5 := hn4.below hb5'; have hb5 := hb4.trans (hb5'.mono hz4); have hz5 := hb5.size; have hn5 := hx5.1; rw [E5.out] at hn5 hc5; rw [E5.out]; clear hx5; clear hZ1_4 hn4 hb5')
    | (go_at_call 21; (with_reducible refine (ncmp_any a5 a _ c5 _ c A l _ rfl rfl hc5 hnc (by omega) (by omega) hn5 (hr.below hb5)).mono ?_); rintro e w6 ⟨rfl, hd6⟩; have hb6' := drew_below hd6; clear hd6; have hA1_6 := hn5.below hb6'; have hb6 := hb5.trans (hb6'.mono hz5); have hz6 := hb6.size; rw [C2.out]; clear hn5 hb6')
    | (go_at_call 13; (with_reducible refine (example_any _ (hN.below hb6)).mono ?_); rintro e wz ⟨rfl, hbz⟩; have hbe := hb6.trans (hbz.mono hz6)))
  go_ret
  exact ⟨rfl, hbe⟩
end Go.Proofs.YtbnialhpflaoaaaDoor
