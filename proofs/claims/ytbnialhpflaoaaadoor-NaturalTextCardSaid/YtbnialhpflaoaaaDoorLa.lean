import Derived.Test.YtbnialhpflaoaaaDoorP8
namespace Go.Proofs.YtbnialhpflaoaaaDoor
open Go.RowKit
set_option linter.unusedVariables false
set_option linter.unusedSimpArgs false
theorem few_any (a b : Option Addr) (n c m d : Nat) (k : Int) (w : World) :
    Calls Tryd.prog 12 #[.slice a n c, .slice b m d, .int .i64 k] w fun e w' => e = .returned (.bool (decide ((n : Int) ≤ k ∧ (m : Int) ≤ k))) ∧ w' = w := by
  by_cases h1 : (n : Int) ≤ k
  · by_cases h2 : (m : Int) ≤ k
    · rw [show decide ((n : Int) ≤ k ∧ (m : Int) ≤ k) = true by simp [h1, h2]]
      go_enter Tryd.func12, Tryd.ntmps12
      go_wp2
      go_ret
      exact ⟨rfl, rfl⟩
    · rw [show decide ((n : Int) ≤ k ∧ (m : Int) ≤ k) = false by simp [h2]]
      have h3 : decide ((m : Int) ≤ k) = false := by simpa using h2
      go_enter Tryd.func12, Tryd.ntmps12
      go_wp2
      go_ret
      exact ⟨rfl, rfl⟩
  · rw [show decide ((n : Int) ≤ k ∧ (m : Int) ≤ k) = false by simp [h1]]
    have h3 : decide ((n : Int) ≤ k) = false := by simpa using h1
    go_enter Tryd.func12, Tryd.ntmps12
    go_wp2
    go_ret
    exact ⟨rfl, rfl⟩
theorem fit_add {A B n m : Nat} (hA : A < pw n) (hB : B < pw m) : (canon (A + B)).length ≤ n + m + 1 := by
  rw [canon_len_le, pw_succ]
  have h1 : pw n ≤ pw (n + m) := pw_mono (by omega)
  have h2 : pw m ≤ pw (n + m) := pw_mono (by omega)
  omega
theorem fit_mul {A B n m : Nat} (hA : A < pw n) (hB : B < pw m) : (canon (A * B)).length ≤ n + m := by
  rw [canon_len_le, pw_add]
  exact Nat.mul_lt_mul_of_lt_of_lt hA hB
theorem fit_sub {A B n : Nat} (hA : A < pw n) : (canon (A - B)).length ≤ n := by
  rw [canon_len_le]
  omega
set_option maxRecDepth 50000 in
set_option maxHeartbeats 2000000 in
theorem arith_w (a b : Option Addr) (n c m d : Nat) (l k : List (BitVec 32)) (w : World) (hn : l.length = n) (hm : k.length = m) (hnc : n ≤ c) (hmd : m ≤ d) (hr : Rw w a l) (hs : Rw w b k) (hN : Tb w) :
    Calls Tryd.prog 4 #[.slice a n c, .slice b m d] w fun e w' => e = .returned (.bool true) ∧ Below w.heap.size w w' := by
  subst hn hm
  by_cases hf : (l.length : Int) ≤ 80 ∧ (k.length : Int) ≤ 80
  case neg =>
    have hfew : decide ((l.length : Int) ≤ 80 ∧ (k.length : Int) ≤ 80) = false := by simpa using hf
    go_enter Tryd.func4, Tryd.ntmps4
    go_wp2_with (first
      | (go_at_call 12; (with_reducible refine (few_any a b _ c _ d 80 _).mono ?_); rintro e w0 ⟨rfl, rfl⟩; rw [hfew])
      | (go_at_call 13; (with_reducible refine (example_any _ hN).mono ?_); rintro e w1 ⟨rfl, hb1⟩))
    go_ret
    exact ⟨rfl, hb1⟩
  have hfew : decide ((l.length : Int) ≤ 80 ∧ (k.length : Int) ≤ 80) = true := by simpa using hf
  obtain ⟨hf1, hf2⟩ := hf
  have fA := fit_add (valD_lt l) (valD_lt k)
  have fM := fit_mul (valD_lt l) (valD_lt k)
  have fD := fit_sub (B := valD k) (valD_lt l)
  obtain ⟨A, hAe⟩ := ex_canon (valD l + valD k)
  obtain ⟨M, hMe⟩ := ex_canon (valD l * valD k)
  obtain ⟨D, hDe⟩ := ex_canon (valD l - valD k)
  rw [hAe.out] at fA
  rw [hMe.out] at fM
  rw [hDe.out] at fD
  have fA2 : A.length ≤ 140737488355328 := by omega
  have fM2 : M.length ≤ 140737488355328 := by omega
  have fD2 : D.length ≤ 140737488355328 := by omega
  rcases Nat.lt_or_ge (valD l) (valD k) with hge | hge
  · skip
    go_enter Tryd.func4, Tryd.ntmps4
    go_wp2_with (first
      | (go_at_call 12; (with_reducible refine (few_any a b _ c _ d 80 _).mono ?_); rintro e w0 ⟨rfl, rfl⟩; rw [hfew])
      | (go_at_call 25; (with_reducible refine (nsub_head a b _ c _ d l k _ rfl rfl hnc hmd (by omega) (by omega) hr hs hge).mono ?_); rintro e w1 ⟨rfl, hb1⟩; have hz1 := hb1.size)
      | (go_at_call 26; (with_reducible refine (rsub_no a b _ c _ d l k _ rfl rfl (by omega) (by omega) (hr.below hb1) (hs.below hb1) hge).mono ?_); rintro e w2 ⟨rfl, hw2⟩; have hb2 := hb1; rw [hw2] at hb2; have hz2 := hb2.size)
      | (go_at_call 27; (with_reducible refine (nadd_any a b _ c _ d l k _ rfl rfl hnc hmd (by omega) (by omega) (hr.below hb2) (hs.below hb2)).mono ?_); rintro e w3 ⟨a3, c3, rfl, _, ha3, hb3'⟩; have hA1 := ha3.1;  have hb3 := hb2.trans (hb3'.mono hz2); have hz3 := hb3.size; rw [hAe.out] at hA1; rw [hAe.out]; clear ha3 hb3')
      | (go_at_call 28; (with_reducible refine (radd_any a b _ c _ d l k _ rfl rfl (by omega) (by omega) (hr.below hb3) (hs.below hb3)).mono ?_); rintro e w4 ⟨a4, c4, rfl, ha4, hb4'⟩; have hA2 := Rw.of_own ha4; have hA1b := hA1.below hb4';  have hb4 := hb3.trans (hb4'.mono hz3); have hz4 := hb4.size; rw [hAe.out] at hA2; rw [hAe.out]; clear ha4 hb4' hA1)
      | (go_at_call 14; (with_reducible refine (same_yes _ _ _ _ _ _ A A _ rfl rfl (by omega) hA1b hA2 rfl).mono ?_); rintro e w5 ⟨rfl, hb5'⟩;  have hb5 := hb4.trans (hb5'.mono hz4); have hz5 := hb5.size; clear hb5' hA1b hA2)
      | (go_at_call 14; (with_reducible refine (same_yes _ _ 0 _ 0 _ [] [] _ rfl rfl (by decide) (Rw.nil _ _) (Rw.nil _ _) rfl).mono ?_); rintro e w6 ⟨rfl, hb6'⟩; have hb6 := hb5.trans (hb6'.mono hz5); have hz6 := hb6.size; clear hb6')
      | (go_at_call 29; (with_reducible refine (nmul_any a b _ c _ d l k _ rfl rfl hnc hmd (by omega) (by omega) (hr.below hb6) (hs.below hb6)).mono ?_); rintro e w7 ⟨a7, c7, rfl, _, hm7, hb7'⟩; have hM1 := hm7.1; have hb7 := hb6.trans (hb7'.mono hz6); have hz7 := hb7.size; rw [hMe.out] at hM1; rw [hMe.out]; clear hm7 hb7')
      | (go_at_call 30; (with_reducible refine (rmul_any a b _ c _ d l k _ rfl rfl (by omega) (by omega) (hr.below hb7) (hs.below hb7)).mono ?_); rintro e w8 ⟨a8, c8, rfl, hm8, hb8'⟩; have hM2 := Rw.of_own hm8; have hM1b := hM1.below hb8'; have hb8 := hb7.trans (hb8'.mono hz7); have hz8 := hb8.size; rw [hMe.out] at hM2; rw [hMe.out]; clear hm8 hb8' hM1)
      | (go_at_call 14; (with_reducible refine (same_yes _ _ _ _ _ _ M M _ rfl rfl (by omega) hM1b hM2 rfl).mono ?_); rintro e w9 ⟨rfl, hb9'⟩; have hb9 := hb8.trans (hb9'.mono hz8); have hz9 := hb9.size; clear hb9')
      | (go_at_call 13; (with_reducible refine (example_any _ (hN.below hb9)).mono ?_); rintro e w10 ⟨rfl, hb10⟩; have hb11 := hb9.trans (hb10.mono hz9)))
    go_ret
    exact ⟨rfl, hb11⟩
  · skip
    go_enter Tryd.func4, Tryd.ntmps4
    go_wp2_with (first
      | (go_at_call 12; (with_reducible refine (few_any a b _ c _ d 80 _).mono ?_); rintro e w0 ⟨rfl, rfl⟩; rw [hfew])
      | (go_at_call 25; (with_reducible refine (nsub_any a b _ c _ d l k _ rfl rfl hnc hmd (by omega) (by omega) hr hs hge).mono ?_); rintro e w1 ⟨a1, c1, rfl, _, hs1, hb1⟩; have hS1 := hs1.1; have hz1 := hb1.size; rw [hDe.out] at hS1; rw [hDe.out])
      | (go_at_call 26; (with_reducible refine (rsub_yes a b _ c _ d l k _ rfl rfl (by omega) (by omega) (hr.below hb1) (hs.below hb1) hge).mono ?_); rintro e w2 ⟨a2, c2, rfl, hs2, hb2'⟩; have hS2 := Rw.of_own hs2; have hS1b := hS1.below hb2'; have hb2 := hb1.trans (hb2'.mono hz1); have hz2 := hb2.size; rw [hDe.out] at hS2; rw [hDe.out]; clear hs2 hb2' hb1 hS1)
      | (go_at_call 27; (with_reducible refine (nadd_any a b _ c _ d l k _ rfl rfl hnc hmd (by omega) (by omega) (hr.below hb2) (hs.below hb2)).mono ?_); rintro e w3 ⟨a3, c3, rfl, _, ha3, hb3'⟩; have hA1 := ha3.1; have hS1c := hS1b.below hb3'; have hS2c := hS2.below hb3'; have hb3 := hb2.trans (hb3'.mono hz2); have hz3 := hb3.size; rw [hAe.out] at hA1; rw [hAe.out]; clear ha3 hb3')
      | (go_at_call 28; (with_reducible refine (radd_any a b _ c _ d l k _ rfl rfl (by omega) (by omega) (hr.below hb3) (hs.below hb3)).mono ?_); rintro e w4 ⟨a4, c4, rfl, ha4, hb4'⟩; have hA2 := Rw.of_own ha4; have hA1b := hA1.below hb4'; have hS1d := hS1c.below hb4'; have hS2d := hS2c.below hb4'; have hb4 := hb3.trans (hb4'.mono hz3); have hz4 := hb4.size; rw [hAe.out] at hA2; rw [hAe.out]; clear ha4 hb4' hA1)
      | (go_at_call 14; (with_reducible refine (same_yes _ _ _ _ _ _ A A _ rfl rfl (by omega) hA1b hA2 rfl).mono ?_); rintro e w5 ⟨rfl, hb5'⟩; have hS1e := hS1d.below hb5'; have hS2e := hS2d.below hb5'; have hb5 := hb4.trans (hb5'.mono hz4); have hz5 := hb5.size; clear hb5' hA1b hA2)
      | (go_at_call 14; (with_reducible refine (same_yes _ _ _ _ _ _ D D _ rfl rfl (by omega) hS1e hS2e rfl).mono ?_); rintro e w6 ⟨rfl, hb6'⟩; have hb6 := hb5.trans (hb6'.mono hz5); have hz6 := hb6.size; clear hb6')
      | (go_at_call 29; (with_reducible refine (nmul_any a b _ c _ d l k _ rfl rfl hnc hmd (by omega) (by omega) (hr.below hb6) (hs.below hb6)).mono ?_); rintro e w7 ⟨a7, c7, rfl, _, hm7, hb7'⟩; have hM1 := hm7.1; have hb7 := hb6.trans (hb7'.mono hz6); have hz7 := hb7.size; rw [hMe.out] at hM1; rw [hMe.out]; clear hm7 hb7')
      | (go_at_call 30; (with_reducible refine (rmul_any a b _ c _ d l k _ rfl rfl (by omega) (by omega) (hr.below hb7) (hs.below hb7)).mono ?_); rintro e w8 ⟨a8, c8, rfl, hm8, hb8'⟩; have hM2 := Rw.of_own hm8; have hM1b := hM1.below hb8'; have hb8 := hb7.trans (hb8'.mono hz7); have hz8 := hb8.size; rw [hMe.out] at hM2; rw [hMe.out]; clear hm8 hb8' hM1)
      | (go_at_call 14; (with_reducible refine (same_yes _ _ _ _ _ _ M M _ rfl rfl (by omega) hM1b hM2 rfl).mono ?_); rintro e w9 ⟨rfl, hb9'⟩; have hb9 := hb8.trans (hb9'.mono hz8); have hz9 := hb9.size; clear hb9')
      | (go_at_call 13; (with_reducible refine (example_any _ (hN.below hb9)).mono ?_); rintro e w10 ⟨rfl, hb10⟩; have hb11 := hb9.trans (hb10.mono hz9)))
    go_ret
    exact ⟨rfl, hb11⟩
end Go.Proofs.YtbnialhpflaoaaaDoor
