import Derived.Test.YtbnialhpflaoaaaDoorPK
namespace Go.Proofs.YtbnialhpflaoaaaDoor
open Go.RowKit
set_option linter.unusedVariables false
set_option linter.unusedSimpArgs false
theorem isSq_ex (V : Nat) : ∃ r, IsSq V r := by
  induction V with
  | zero => exact ⟨0, by decide, by decide⟩
  | succ V ih =>
    obtain ⟨r, h1, h2⟩ := ih
    rcases Nat.lt_or_ge (V + 1) ((r + 1) * (r + 1)) with h | h
    · exact ⟨r, by omega, h⟩
    · refine ⟨r + 1, h, ?_⟩
      have : (r + 1) * (r + 1) < (r + 1 + 1) * (r + 1 + 1) := Nat.mul_lt_mul_of_lt_of_lt (by omega) (by omega)
      omega
theorem nsqrt_at (a : Option Addr) (n c r : Nat) (l : List (BitVec 32)) (w : World) (hn : l.length = n) (hnc : n ≤ c) (hl : n ≤ 20000) (hr : Rw w a l) (hq : IsSq (valD l) r) :
    Calls Tryd.prog 36 #[.slice a n c] w (FrR w (canon r)) := by
  refine (nsqrt_any a n c l w hn hnc hl hr).mono ?_
  rintro e w' ⟨s, hs, h⟩
  rw [isSq_uniq hq hs]
  exact h
theorem rsqrt_at (a : Option Addr) (n c r : Nat) (l : List (BitVec 32)) (w : World) (hn : l.length = n) (hl : n ≤ 200) (hr : Rw w a l) (hq : IsSq (valD l) r) :
    Calls Tryd.prog 37 #[.slice a n c] w fun e w' => ∃ a1 c1, e = .returned (.slice a1 (canon r).length c1) ∧ Rw w' a1 (canon r) ∧ Below w.heap.size w w' := by
  refine (rsqrt_any a n c l w hn hl hr).mono ?_
  rintro e w' ⟨s, a1, c1, hs, h⟩
  rw [isSq_uniq hq hs]
  exact ⟨a1, c1, h⟩
set_option maxRecDepth 50000 in
set_option maxHeartbeats 4000000 in
theorem sqrt_w (a : Option Addr) (n c : Nat) (l : List (BitVec 32)) (w : World) (hn : l.length = n) (hnc : n ≤ c) (hr : Rw w a l) (hN : Tb w) :
    Calls Tryd.prog 8 #[.slice a n c] w fun e w' => e = .returned (.bool true) ∧ Below w.heap.size w w' := by
  subst hn
  by_cases hf : l.length ≤ 12
  case neg =>
    have hm1 : decide ((12 : Int) < (l.length : Int)) = true := by rw [decide_eq_true_iff]; omega
    go_enter Tryd.func8, Tryd.ntmps8
    go_wp2_with (go_at_call 13; (with_reducible refine (example_any _ hN).mono ?_); rintro e w1 ⟨rfl, hb1⟩)
    go_ret
    exact ⟨rfl, hb1⟩
  have hm1 : decide ((12 : Int) < (l.length : Int)) = false := by rw [decide_eq_false_iff_not]; omega
  have hb0 := Below.refl w.heap.size w
  have hz0 := hb0.size
  obtain ⟨r, hsq⟩ := isSq_ex (valD l)
  obtain ⟨X, E1⟩ := ex_canon r
  have vX : valD X = r := by rw [← E1.out, valD_canon]
  obtain ⟨N, E2⟩ := ex_canon (valD X + valD [1#32])
  have vN : valD N = r + 1 := by rw [← E2.out, valD_canon, vX]; simp [valD_cons, valD_nil]
  obtain ⟨M, E3⟩ := ex_canon (valD X * valD X)
  have vM : valD M = r * r := by rw [← E3.out, valD_canon, vX]
  obtain ⟨M2, E4⟩ := ex_canon (valD N * valD N)
  have vM2 : valD M2 = (r + 1) * (r + 1) := by rw [← E4.out, valD_canon, vN]
  have I1 : Hid (decide (trimD X = X) = true) := by show _ = _; rw [decide_eq_true_iff, ← E1.out, trim_canon]
  obtain ⟨v, hv, hv2⟩ : ∃ v : Int, cmpN (valD M) (valD l) = v ∧ decide (v ≤ 0) = true := by
    rw [vM]
    rcases Nat.lt_or_eq_of_le hsq.1 with h1 | h1
    · exact ⟨-1, cmpN_lt h1, rfl⟩
    · exact ⟨0, by rw [h1, cmpN_eq], rfl⟩
  have C1 := Lib.hid hv
  have C2 : Hid (cmpN (valD M2) (valD l) = 1) := cmpN_gt (by rw [vM2]; exact hsq.2)
  have hlit : ∀ W : World, Rw (W.alloc (.cells #[Value.int IntKind.u32 1] 39)) (some ⟨W.heap.size, 0, none⟩) [1#32] := fun W => Rw.of_alloc rfl rfl
  have fX : X.length ≤ l.length := by rw [← E1.out, canon_len_le]; exact root_lt hsq.1 (valD_lt l)
  have fN := fit_add (valD_lt X) (valD_lt [1#32])
  have fM := fit_mul (valD_lt X) (valD_lt X)
  have fM2 := fit_mul (valD_lt N) (valD_lt N)
  rw [E2.out] at fN
  rw [E3.out] at fM
  rw [E4.out] at fM2
  have fo : [1#32].length = 1 := rfl
  rw [fo] at fN
  clear vX vN vM vM2 hv fo
  go_enter Tryd.func8, Tryd.ntmps8
  go_wp2_with (first
    | (go_at_call 36; (with_reducible refine (nsqrt_at a _ c r l _ rfl hnc (by omega) (hr.below hb0) hsq).mono ?_); rintro e w1 ⟨a1, c1, rfl, hc1, hx1, hb1'⟩; have hb1 := hb0.trans (hb1'.mono hz0); have hz1 := hb1.size; have hn1 := hx1.1; rw [E1.out] at hn1 hc1; rw [E1.out]; clear hx1; clear hb1')
    | (go_at_call 27; (with_reducible refine (nadd_any a1 (some ⟨w1.heap.size, 0, none⟩) _ c1 1 1 X [1#32] _ rfl rfl hc1 (Nat.le_refl _) (by omega) (by omega) (hn1.below (Below.alloc (Below.refl w1.heap.size w1) (Nat.le_refl _) (.cells #[Value.int IntKind.u32 1] 39))) (hlit w1)).mono ?_); rintro e w2 ⟨a2, c2, rfl, hc2, hx2, hb2'⟩; have hb2'' := (Below.alloc (Below.refl w1.heap.size w1) (Nat.le_refl _) (.cells #[Value.int IntKind.u32 1] 39)).trans (hb2'.mono (by simp)); have hX1_2 := hn1.below hb2''; have hb2 := hb1.trans (hb2''.mono hz1); have hz2 := hb2.size; have hn2 := hx2.1; rw [E2.out] at hn2 hc2; rw [E2.out]; clear hx2 hb2' hb2'')
    | (go_at_call 17; (with_reducible refine (nisnorm_any a1 _ c1 X _ rfl (by omega) hX1_2).mono ?_); rintro e wn ⟨rfl, rfl⟩; rw [I1.out])
    | (go_at_call 29; (with_reducible refine (nmul_any a1 a1 _ c1 _ c1 X X _ rfl rfl hc1 hc1 (by omega) (by omega) hX1_2 hX1_2).mono ?_); rintro e w3 ⟨a3, c3, rfl, hc3, hx3, hb3'⟩; have hX1_3 := hX1_2.below hb3'; have hN1_3 := hn2.below hb3'; have hb3 := hb2.trans (hb3'.mono hz2); have hz3 := hb3.size; have hn3 := hx3.1; rw [E3.out] at hn3 hc3; rw [E3.out]; clear hx3; clear hX1_2 hn2 hb3')
    | (go_at_call 21; (with_reducible refine (ncmp_any a3 a _ c3 _ c M l _ rfl rfl hc3 hnc (by omega) (by omega) hn3 (hr.below hb3)).mono ?_); rintro e w4 ⟨rfl, hd4⟩; have hb4' := drew_below hd4; clear hd4; have hX1_4 := hX1_3.below hb4'; have hN1_4 := hN1_3.below hb4'; have hM1_4 := hn3.below hb4'; have hb4 := hb3.trans (hb4'.mono hz3); have hz4 := hb4.size; rw [C1.out]; clear hX1_3 hN1_3 hn3 hb4')
    | (go_at_call 29; (with_reducible refine (nmul_any a2 a2 _ c2 _ c2 N N _ rfl rfl hc2 hc2 (by omega) (by omega) hN1_4 hN1_4).mono ?_); rintro e w5 ⟨a5, c5, rfl, hc5, hx5, hb5'⟩; have hX1_5 := hX1_4.below hb5'; have hN1_5 := hN1_4.below hb5'; have hb5 := hb4.trans (hb5'.mono hz4); have hz5 := hb5.size; have hn5 := hx5.1; rw [E4.out] at hn5 hc5; rw [E4.out]; clear hx5; clear hX1_4 hN1_4 hb5')
    | (go_at_call 21; (with_reducible refine (ncmp_any a5 a _ c5 _ c M2 l _ rfl rfl hc5 hnc (by omega) (by omega) hn5 (hr.below hb5)).mono ?_); rintro e w6 ⟨rfl, hd6⟩; have hb6' := drew_below hd6; clear hd6; have hX1_6 := hX1_5.below hb6'; have hM3_6 := hn5.below hb6'; have hb6 := hb5.trans (hb6'.mono hz5); have hz6 := hb6.size; rw [C2.out]; clear hX1_5 hn5 hb6')
    | (go_at_call 37; (with_reducible refine (rsqrt_at a _ c r l _ rfl (by omega) (hr.below hb6) hsq).mono ?_); rintro e w7 ⟨a7, c7, rfl, hn7, hb7'⟩; have hX1_7 := hX1_6.below hb7'; have hb7 := hb6.trans (hb7'.mono hz6); have hz7 := hb7.size; rw [E1.out] at hn7; rw [E1.out]; clear hX1_6 hb7')
    | (go_at_call 14; (with_reducible refine (same_yes _ _ _ _ _ _ X X _ rfl rfl (by omega) hX1_7 hn7 rfl).mono ?_); rintro e w8 ⟨rfl, hb8'⟩; have hX1_8 := hX1_7.below hb8'; have hX2_8 := hn7.below hb8'; have hb8 := hb7.trans (hb8'.mono hz7); have hz8 := hb8.size; clear hX1_7 hn7 hb8')
    | (go_at_call 13; (with_reducible refine (example_any _ (hN.below hb8)).mono ?_); rintro e wz ⟨rfl, hbz⟩; have hbe := hb8.trans (hbz.mono hz8)))
  go_ret
  exact ⟨rfl, hbe⟩
end Go.Proofs.YtbnialhpflaoaaaDoor
