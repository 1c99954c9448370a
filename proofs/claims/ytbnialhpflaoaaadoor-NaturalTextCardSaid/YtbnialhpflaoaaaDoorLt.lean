import Derived.Test.YtbnialhpflaoaaaDoorPQ
import Derived.Test.YtbnialhpflaoaaaDoorLx
namespace Go.Proofs.YtbnialhpflaoaaaDoor
open Go.RowKit
set_option linter.unusedVariables false
set_option linter.unusedSimpArgs false
/-- The reference's text of a row is the text S. -/
theorem rformat_str (a : Option Addr) (n c : Nat) (l : List (BitVec 32)) (S : ByteArray) (w : World) (hn : l.length = n) (hl : n ≤ 90000) (hr : Rw w a l) (hS : S.data.toList = Lib.decDigits (valD l)) :
    Calls Tryd.prog 41 #[.slice a n c] w fun e w' => e = .returned (.string S) ∧ Below w.heap.size w w' := by
  refine (rformat_any a n c l w hn hl hr).mono ?_
  rintro e w' ⟨rfl, hb⟩
  refine ⟨?_, hb⟩
  unfold sv
  rw [← hS, Array.toArray_toList]
theorem same_nil (w : World) : Calls Tryd.prog 14 #[.slice none 0 0, .slice none 0 0] w fun e w' => e = .returned (.bool true) ∧ Below w.heap.size w w' := same_yes none none 0 0 0 0 [] [] w rfl rfl (by simp) (Rw.nil _ _) (Rw.nil _ _) rfl
set_option maxRecDepth 50000 in
set_option maxHeartbeats 4000000 in
theorem text_w (a : Option Addr) (n c : Nat) (l : List (BitVec 32)) (S : ByteArray) (w : World) (hn : l.length = n) (hnc : n ≤ c) (hr : Rw w a l) (hN : Tb w) :
    Calls Tryd.prog 9 #[.slice a n c, .string S] w fun e w' => e = .returned (.bool true) ∧ Below w.heap.size w w' := by
  subst hn
  obtain ⟨ls, hS⟩ : ∃ ls, S.data.toList = ls := ⟨_, rfl⟩
  have hsz := str_size hS
  by_cases hf : l.length ≤ 100
  case neg =>
    have hm1 : decide ((100 : Int) < (l.length : Int)) = true := by rw [decide_eq_true_iff]; omega
    go_enter Tryd.func9, Tryd.ntmps9
    go_wp2_with (go_at_call 13; (with_reducible refine (example_any _ hN).mono ?_); rintro e w1 ⟨rfl, hb1⟩)
    go_ret
    exact ⟨rfl, hb1⟩
  have hm1 : decide ((100 : Int) < (l.length : Int)) = false := by rw [decide_eq_false_iff_not]; omega
  by_cases hg : ls.length ≤ 1100
  case neg =>
    have hm2 : decide ((1100 : Int) < (ls.length : Int)) = true := by rw [decide_eq_true_iff]; omega
    go_enter Tryd.func9, Tryd.ntmps9
    go_wp2_with (go_at_call 13; (with_reducible refine (example_any _ hN).mono ?_); rintro e w1 ⟨rfl, hb1⟩)
    go_ret
    exact ⟨rfl, hb1⟩
  have hm2 : decide ((1100 : Int) < (ls.length : Int)) = false := by rw [decide_eq_false_iff_not]; omega
  have hb0 := Below.refl w.heap.size w
  have hz0 := hb0.size
  obtain ⟨SV, hSV⟩ : ∃ SV : ByteArray, SV.data.toList = Lib.decDigits (valD l) := ⟨⟨(Lib.decDigits (valD l)).toArray⟩, rfl⟩
  have hls : ls.length ≤ 1000000 := by omega
  rcases Bool.eq_false_or_eq_true (isDec ls) with hb | hb
  case inr =>
    go_enter Tryd.func9, Tryd.ntmps9
    go_wp2_with (first
      | (go_at_call 38; (with_reducible refine (nparse_bad S ls _ hS hls hb).mono ?_); rintro e w1 ⟨rfl, hw1⟩; have hb1' := below_of_eq hw1; clear hw1; have hb1 := hb0.trans (hb1'.mono hz0); have hz1 := hb1.size; clear hb1')
      | (go_at_call 39; (with_reducible refine (rparse_bad S ls _ hS hls hb).mono ?_); rintro e w2 ⟨rfl, hw2⟩; have hb2' := below_of_eq hw2; clear hw2; have hb2 := hb1.trans (hb2'.mono hz1); have hz2 := hb2.size; clear hb2')
      | (go_at_call 40; (with_reducible refine (nformat_str a _ c l SV _ rfl hnc (by omega) (hr.below hb2) (hN.below hb2) hSV).mono ?_); rintro e w3 ⟨rfl, hb3'⟩; have hb3 := hb2.trans (hb3'.mono hz2); have hz3 := hb3.size; clear hb3')
      | (go_at_call 41; (with_reducible refine (rformat_str a _ c l SV _ rfl (by omega) (hr.below hb3) hSV).mono ?_); rintro e w4 ⟨rfl, hb4'⟩; have hb4 := hb3.trans (hb4'.mono hz3); have hz4 := hb4.size; clear hb4')
      | (go_at_call 14; (with_reducible refine (same_nil _).mono ?_); rintro e w5 ⟨rfl, hb5'⟩; have hb5 := hb4.trans (hb5'.mono hz4); have hz5 := hb5.size; clear hb5')
      | (go_at_call 13; (with_reducible refine (example_any _ (hN.below hb5)).mono ?_); rintro e wz ⟨rfl, hbz⟩; have hbe := hb5.trans (hbz.mono hz5)))
    go_ret
    exact ⟨rfl, hbe⟩

  rcases Nat.lt_or_ge 1000 ls.length with hbl | hbl
  · go_enter Tryd.func9, Tryd.ntmps9
    go_wp2_with (first
      | (go_at_call 38; (with_reducible refine (nparse_long S ls _ hS hls hb hbl).mono ?_); rintro e w1 ⟨rfl, hw1⟩; have hb1' := below_of_eq hw1; clear hw1; have hb1 := hb0.trans (hb1'.mono hz0); have hz1 := hb1.size; clear hb1')
      | (go_at_call 39; (with_reducible refine (rparse_long S ls _ hS hls hb hbl).mono ?_); rintro e w2 ⟨rfl, hw2⟩; have hb2' := below_of_eq hw2; clear hw2; have hb2 := hb1.trans (hb2'.mono hz1); have hz2 := hb2.size; clear hb2')
      | (go_at_call 40; (with_reducible refine (nformat_str a _ c l SV _ rfl hnc (by omega) (hr.below hb2) (hN.below hb2) hSV).mono ?_); rintro e w3 ⟨rfl, hb3'⟩; have hb3 := hb2.trans (hb3'.mono hz2); have hz3 := hb3.size; clear hb3')
      | (go_at_call 41; (with_reducible refine (rformat_str a _ c l SV _ rfl (by omega) (hr.below hb3) hSV).mono ?_); rintro e w4 ⟨rfl, hb4'⟩; have hb4 := hb3.trans (hb4'.mono hz3); have hz4 := hb4.size; clear hb4')
      | (go_at_call 14; (with_reducible refine (same_nil _).mono ?_); rintro e w5 ⟨rfl, hb5'⟩; have hb5 := hb4.trans (hb5'.mono hz4); have hz5 := hb5.size; clear hb5')
      | (go_at_call 13; (with_reducible refine (example_any _ (hN.below hb5)).mono ?_); rintro e wz ⟨rfl, hbz⟩; have hbe := hb5.trans (hbz.mono hz5)))
    go_ret
    exact ⟨rfl, hbe⟩

  · obtain ⟨Y, E3⟩ := ex_canon (dv ls)
    have fY : Y.length ≤ ls.length := by rw [← E3.out]; exact dv_fit (isDec_digs hb).1
    go_enter Tryd.func9, Tryd.ntmps9
    go_wp2_with (first
      | (go_at_call 38; (with_reducible refine (nparse_ok S ls _ hS hb hbl).mono ?_); rintro e w1 ⟨a1, c1, rfl, hc1, hx1, hb1'⟩; have hb1 := hb0.trans (hb1'.mono hz0); have hz1 := hb1.size; have hn1 := hx1.1; rw [E3.out] at hn1 hc1; rw [E3.out]; clear hx1; clear hb1')
      | (go_at_call 39; (with_reducible refine (rparse_ok S ls _ hS hb hbl).mono ?_); rintro e w2 ⟨a2, c2, rfl, hn2, hb2'⟩; have hY1_2 := hn1.below hb2'; have hb2 := hb1.trans (hb2'.mono hz1); have hz2 := hb2.size; rw [E3.out] at hn2; rw [E3.out]; clear hn1 hb2')
      | (go_at_call 40; (with_reducible refine (nformat_str a _ c l SV _ rfl hnc (by omega) (hr.below hb2) (hN.below hb2) hSV).mono ?_); rintro e w3 ⟨rfl, hb3'⟩; have hY1_3 := hY1_2.below hb3'; have hY2_3 := hn2.below hb3'; have hb3 := hb2.trans (hb3'.mono hz2); have hz3 := hb3.size; clear hY1_2 hn2 hb3')
      | (go_at_call 41; (with_reducible refine (rformat_str a _ c l SV _ rfl (by omega) (hr.below hb3) hSV).mono ?_); rintro e w4 ⟨rfl, hb4'⟩; have hY1_4 := hY1_3.below hb4'; have hY2_4 := hY2_3.below hb4'; have hb4 := hb3.trans (hb4'.mono hz3); have hz4 := hb4.size; clear hY1_3 hY2_3 hb4')
      | (go_at_call 14; (with_reducible refine (same_yes _ _ _ _ _ _ Y Y _ rfl rfl (by omega) hY1_4 hY2_4 rfl).mono ?_); rintro e w5 ⟨rfl, hb5'⟩; have hY1_5 := hY1_4.below hb5'; have hY2_5 := hY2_4.below hb5'; have hb5 := hb4.trans (hb5'.mono hz4); have hz5 := hb5.size; clear hY1_4 hY2_4 hb5')
      | (go_at_call 13; (with_reducible refine (example_any _ (hN.below hb5)).mono ?_); rintro e wz ⟨rfl, hbz⟩; have hbe := hb5.trans (hbz.mono hz5)))
    go_ret
    exact ⟨rfl, hbe⟩

end Go.Proofs.YtbnialhpflaoaaaDoor
