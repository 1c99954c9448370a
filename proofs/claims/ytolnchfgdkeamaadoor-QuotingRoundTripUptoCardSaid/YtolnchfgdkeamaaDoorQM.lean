import Derived.Test.YtolnchfgdkeamaaDoorQO
import Derived.WalkKit
import Derived.WalkSpells
import Derived.WalkLawsBesides
import Derived.Lib.Hide
import Derived.Below
import Derived.Deep.QuietTactic
import Derived.BigQuiet
import Derived.IntWalk
import Derived.Laws.BitsAllLaws
namespace Go.Proofs.YtolnchfgdkeamaaDoor
open Go.RowKit
set_option linter.unusedVariables false
set_option linter.unusedSimpArgs false
theorem same0 (w : World) : Calls Tryd.prog 19 #[.slice none 0 0, .slice none 0 0] w fun e w' => e = .returned (.bool true) ∧ Below w.heap.size w w' := same_yes [] [] none none 0 0 w (RdV.nil _ _) (RdV.nil _ _) (by simp) rfl
theorem oneV (xs : List ByteArray) : ∀ u ∈ strV xs, u.oneCell' = true := by
  intro u hu
  obtain ⟨x, _, rfl⟩ := List.mem_map.1 hu
  rfl
theorem tot_mem {xs : List ByteArray} {x : ByteArray} (h : x ∈ xs) : x.size ≤ tot xs := by
  induction xs with
  | nil => cases h
  | cons y xs ih =>
    have e : tot (y :: xs) = y.size + tot xs := by simp [tot]
    rcases List.mem_cons.1 h with rfl | h
    · omega
    · have := ih h
      omega
theorem few_len {xs : List ByteArray} (h : fewB xs = true) : xs.length ≤ 300 := by
  unfold fewB at h
  simp at h
  exact h.1
theorem jl_len (xs : List ByteArray) : (jlL xs).length = tot xs + xs.length := by
  induction xs with
  | nil => rfl
  | cons x xs ih =>
    have e : tot (x :: xs) = x.size + tot xs := by simp [tot]
    have h1 : x.data.toList.length = x.size := (str_size rfl).symm
    have e2 : jlL (x :: xs) = (x.data.toList ++ [10]) ++ jlL xs := by simp [jlL]
    rw [e2, List.length_append, List.length_append, ih, h1, e]
    simp only [List.length_cons, List.length_nil]
    omega
/-- Of few texts at most one is long. -/
theorem few_tot {xs : List ByteArray} (M : Nat) (hM : 5000 ≤ M) (h : fewB xs = true) (hx : ∀ x ∈ xs, x.size ≤ M) : tot xs ≤ M := by
  have hl := few_len h
  have hs : (xs.map fun x => min x.size 5000).sum ≤ 5000 := by
    unfold fewB fewT at h
    rw [List.take_of_length_le (by omega)] at h
    simp at h
    exact h.2
  clear h hl
  have key : ∀ (ys : List ByteArray) (k : Nat), (∀ x ∈ ys, x.size ≤ M) → (ys.map fun x => min x.size 5000).sum ≤ k → k ≤ 5000 → (tot ys ≤ k ∨ (k = 5000 ∧ tot ys ≤ M)) := by
    intro ys
    induction ys with
    | nil => intro k _ _ _; exact .inl (by simp [tot])
    | cons y ys ih =>
      intro k hy hk hk5
      have e : tot (y :: ys) = y.size + tot ys := by simp [tot]
      simp only [List.map_cons, List.sum_cons] at hk
      have hyM := hy y (by simp)
      have hm : min y.size 5000 = y.size ∨ (min y.size 5000 = 5000 ∧ 5000 ≤ y.size) := by omega
      rcases hm with hm | ⟨hm, h5⟩
      · rw [hm] at hk
        rcases ih (k - y.size) (fun x hx => hy x (List.mem_cons_of_mem _ hx)) (by omega) (by omega) with h1 | ⟨h1, h2⟩
        · exact .inl (by omega)
        · have : y.size = 0 := by omega
          exact .inr ⟨by omega, by omega⟩
      · rw [hm] at hk
        have hk2 : k = 5000 := by omega
        rcases ih 0 (fun x hx => hy x (List.mem_cons_of_mem _ hx)) (by omega) (by omega) with h1 | ⟨h1, _⟩
        · exact .inr ⟨hk2, by omega⟩
        · omega
  rcases key xs 5000 hx hs (Nat.le_refl _) with h1 | ⟨_, h1⟩
  · omega
  · exact h1
theorem fields_cnt (l : List UInt8) : (fieldsL l).length ≤ l.length + 1 := by
  unfold fieldsL
  split
  · simp
  · exact cutL_count 32 l
theorem lines_cnt {l : List UInt8} {ys : List ByteArray} (h : LnGood l ys) : ys.length ≤ l.length + 1 := by
  rcases h with ⟨_, rfl⟩ | ⟨r, h, h1⟩
  · simp
  · have h2 := cutL_count 10 r
    rw [← h1, List.length_map] at h2
    rw [h, List.length_append]
    omega
set_option maxRecDepth 50000 in
set_option maxHeartbeats 4000000 in
theorem quotingLines_walk (a : Option Addr) (xs : List ByteArray) (c : Nat) (S : ByteArray) (w : World) (hM : Mx w) (hr : RdV w a (strV xs)) (hc : xs.length ≤ c) (hx : c ≤ maxLen) (hb : ∀ x ∈ xs, x.size ≤ 140737488351232) :
    Calls Tryd.prog 5 #[.slice a xs.length c, .string S] w fun e w' => e = .returned (.bool true) ∧ Below w.heap.size w w' := by
  have hxl : xs.length ≤ 9223372036854775807 := Nat.le_trans hc hx
  cases hfew : fewB xs with
  | false =>
    go_enter Tryd.func5, Tryd.ntmps5
    go_wp2_with (first | (go_at_call 14; (with_reducible refine (few_any xs a c _ hr hxl).mono ?_); rintro e w0 ⟨rfl, rfl⟩; rw [hfew]) | (go_at_call 9; (with_reducible refine (example_any _ hM).mono ?_); rintro e w1 ⟨rfl, hb1⟩))
    go_ret
    exact ⟨rfl, hb1⟩
  | true =>
  by_cases hs : S.size ≤ 5000
  case neg =>
    have d1 : decide ((5000 : Int) < (S.size : Int)) = true := by rw [decide_eq_true_iff]; omega
    go_enter Tryd.func5, Tryd.ntmps5
    go_wp2_with (first | (go_at_call 14; (with_reducible refine (few_any xs a c _ hr hxl).mono ?_); rintro e w0 ⟨rfl, rfl⟩; rw [hfew]) | (go_at_call 9; (with_reducible refine (example_any _ hM).mono ?_); rintro e w1 ⟨rfl, hb1⟩))
    go_ret
    exact ⟨rfl, hb1⟩
  have d1 : decide ((5000 : Int) < (S.size : Int)) = false := by rw [decide_eq_false_iff_not]; omega
  obtain ⟨i0, hi, hz0, hz1, hz2⟩ := info_parts infoS
  have hn3 := few_len hfew
  obtain ⟨ls, hS⟩ : ∃ ls, S.data.toList = ls := ⟨_, rfl⟩
  have hls := str_size hS
  have hT := few_tot 140737488351232 (by omega) hfew hb
  have hK : (jlL xs).length ≤ 140737488355327 := by rw [jl_len]; omega
  obtain ⟨Q, hQ⟩ : ∃ Q : ByteArray, (⟨(jlL xs).toArray⟩ : ByteArray) = Q := ⟨_, rfl⟩
  have J1 := fun (a : Option Addr) (c : Nat) W (h : RdV W a (strV xs)) => jlines_any xs a c _ W h (by omega) (Nat.le_refl _) hK
  have J2 := fun (a : Option Addr) (c : Nat) W (h : RdV W a (strV xs)) => rjlines_any xs a c _ W h (by omega) (Nat.le_refl _) hK
  rw [hQ] at J1 J2
  obtain ⟨n, hn⟩ : ∃ n, xs.length = n := ⟨_, rfl⟩
  have hsl := strV_len xs
  rw [hn] at hc hxl hn3 J1 J2 hsl
  have F1 := few_any xs a c w hr (by rw [hn]; exact hxl)
  rw [hn, hfew] at F1
  rw [hn]
  have hb0 := Below.refl w.heap.size w
  have hz0' := hb0.size
  have HJ1 := Lib.hid J1
  have HJ2 := Lib.hid J2
  have HF := Lib.hid F1
  clear J1 J2 F1 hQ hn hfew hb hK
  rcases ln_cases ls with ⟨ys, hg⟩ | hg
  · have HG := Lib.hid hg
    have hyl : ys.length ≤ 10000000 := by 
      have h2 := lines_cnt hg
      omega
    go_enter Tryd.func5, Tryd.ntmps5
    go_wp2_with (first
      | (go_at_call 14; (with_reducible refine HF.out.mono ?_); rintro e w0 ⟨rfl, hw0⟩; subst hw0)
      | (go_at_call 20; (with_reducible refine (lines_good S ls ys _ hS (by omega) hM hg).mono ?_); rintro e w1 ⟨a1, c1, rfl, Y1, hb1⟩; have hz1' := hb1.size)
      | (go_at_call 21; (with_reducible refine (rlines_good S ls ys _ hS (by omega) hg).mono ?_); rintro e w2 ⟨a2, c2, rfl, Z2, hb2'⟩; have Y2 := Y1.below hb2'; clear Y1; have hb2 := hb1.trans (hb2'.mono hz1'); have hz2' := hb2.size; clear hb2')
      | (at_builtin; go_loud (refine wpList_append_rd _ rfl _ _ _ rfl w2.heap.size 9 i0 (.string ⟨#[]⟩) 16 Tryd.underlying28 hi hz0 hz1 hz2 rfl (.slice (some ⟨w2.heap.size, 0, none⟩) 0 0) 0 [] rfl (own_made w2 #[] 9 0 rfl (Nat.zero_le _)) a n c (strV xs) rfl hsl ((hr.below hb2).below (Below.alloc (Below.refl w2.heap.size w2) (Nat.le_refl _) (.cells #[] 9))) (oneV xs) (by unfold maxLen; omega) (by omega) (Below.alloc (Below.refl w2.heap.size w2) (Nat.le_refl _) (.cells #[] 9)).size ?_; intro v3 w3 hown3 hg3 hv3; have hba := Below.alloc (Below.refl w2.heap.size w2) (Nat.le_refl _) (.cells #[] 9); have hbb : Below w2.heap.size w2 w3 := hba.grown hg3 hba.size (fun q hq => by cases hq; exact Nat.le_refl _); have hb3 := hb2.trans (hbb.mono hz2'); have hz3 := hb3.size; have Y3 := Y2.below hbb; have Z3 := Z2.below hbb; clear Y2 Z2; obtain ⟨a3, c3, rfl⟩ := own_slice hown3; have R3 := own_vals hown3; rw [List.nil_append] at R3; rw [Nat.zero_add]; clear hown3 hg3 hv3 hba hbb))
      | (go_at_call 22; (with_reducible refine (HJ1.out _ _ _ R3).mono ?_); rintro e w4 ⟨rfl, hb4'⟩; have Y4 := Y3.below hb4'; have Z4 := Z3.below hb4'; clear Y3 Z3; have hb4 := hb3.trans (hb4'.mono hz3); have hz4 := hb4.size; clear hb4' R3)
      | (go_at_call 23; (with_reducible refine (HJ2.out _ _ _ (hr.below hb4)).mono ?_); rintro e w5 ⟨rfl, m5, hw5⟩; have hb5' := be_drewN (Below.refl w4.heap.size w4) m5; rw [← hw5] at hb5'; clear hw5; have Y5 := Y4.below hb5'; have Z5 := Z4.below hb5'; clear Y4 Z4; have hb5 := hb4.trans (hb5'.mono hz4); have hz5 := hb5.size; clear hb5')
      | (go_at_call 19; (with_reducible refine (same_yes ys ys _ _ _ _ _ Y5 Z5 hyl rfl).mono ?_); rintro e w6 ⟨rfl, hb6'⟩; have hb6 := hb5.trans (hb6'.mono hz5); have hz6 := hb6.size; clear hb6')
      | (go_at_call 9; (with_reducible refine (example_any _ (hM.below hb6)).mono ?_); rintro e w7 ⟨rfl, hb7'⟩; have hb7 := hb6.trans (hb7'.mono hz6)))
    go_ret
    exact ⟨rfl, hb7⟩
  · have HG := Lib.hid hg
    go_enter Tryd.func5, Tryd.ntmps5
    go_wp2_with (first
      | (go_at_call 14; (with_reducible refine HF.out.mono ?_); rintro e w0 ⟨rfl, hw0⟩; subst hw0)
      | (go_at_call 20; (with_reducible refine (lines_bad S ls  _ hS (by omega) hM hg).mono ?_); rintro e w1 ⟨rfl, hb1⟩; have hz1' := hb1.size)
      | (go_at_call 21; (with_reducible refine (rlines_bad S ls  _ hS (by omega) hg).mono ?_); rintro e w2 ⟨rfl, hb2'⟩; have hb2 := hb1.trans (hb2'.mono hz1'); have hz2' := hb2.size; clear hb2')
      | (at_builtin; go_loud (refine wpList_append_rd _ rfl _ _ _ rfl w2.heap.size 9 i0 (.string ⟨#[]⟩) 16 Tryd.underlying28 hi hz0 hz1 hz2 rfl (.slice (some ⟨w2.heap.size, 0, none⟩) 0 0) 0 [] rfl (own_made w2 #[] 9 0 rfl (Nat.zero_le _)) a n c (strV xs) rfl hsl ((hr.below hb2).below (Below.alloc (Below.refl w2.heap.size w2) (Nat.le_refl _) (.cells #[] 9))) (oneV xs) (by unfold maxLen; omega) (by omega) (Below.alloc (Below.refl w2.heap.size w2) (Nat.le_refl _) (.cells #[] 9)).size ?_; intro v3 w3 hown3 hg3 hv3; have hba := Below.alloc (Below.refl w2.heap.size w2) (Nat.le_refl _) (.cells #[] 9); have hbb : Below w2.heap.size w2 w3 := hba.grown hg3 hba.size (fun q hq => by cases hq; exact Nat.le_refl _); have hb3 := hb2.trans (hbb.mono hz2'); have hz3 := hb3.size;  obtain ⟨a3, c3, rfl⟩ := own_slice hown3; have R3 := own_vals hown3; rw [List.nil_append] at R3; rw [Nat.zero_add]; clear hown3 hg3 hv3 hba hbb))
      | (go_at_call 22; (with_reducible refine (HJ1.out _ _ _ R3).mono ?_); rintro e w4 ⟨rfl, hb4'⟩; have hb4 := hb3.trans (hb4'.mono hz3); have hz4 := hb4.size; clear hb4' R3)
      | (go_at_call 23; (with_reducible refine (HJ2.out _ _ _ (hr.below hb4)).mono ?_); rintro e w5 ⟨rfl, m5, hw5⟩; have hb5' := be_drewN (Below.refl w4.heap.size w4) m5; rw [← hw5] at hb5'; clear hw5; have hb5 := hb4.trans (hb5'.mono hz4); have hz5 := hb5.size; clear hb5')
      | (go_at_call 19; (with_reducible refine (same0 _).mono ?_); rintro e w6 ⟨rfl, hb6'⟩; have hb6 := hb5.trans (hb6'.mono hz5); have hz6 := hb6.size; clear hb6')
      | (go_at_call 9; (with_reducible refine (example_any _ (hM.below hb6)).mono ?_); rintro e w7 ⟨rfl, hb7'⟩; have hb7 := hb6.trans (hb7'.mono hz6)))
    go_ret
    exact ⟨rfl, hb7⟩
set_option maxRecDepth 50000 in
set_option maxHeartbeats 4000000 in
theorem quotingFields_walk (a : Option Addr) (xs : List ByteArray) (c : Nat) (S : ByteArray) (w : World) (hM : Mx w) (hr : RdV w a (strV xs)) (hc : xs.length ≤ c) (hx : c ≤ maxLen) (hb : tot xs + xs.length + S.size ≤ 1048576) :
    Calls Tryd.prog 4 #[.slice a xs.length c, .string S] w fun e w' => e = .returned (.bool true) ∧ Below w.heap.size w w' := by
  have hxl : xs.length ≤ 9223372036854775807 := Nat.le_trans hc hx
  cases hfew : fewB xs with
  | false =>
    go_enter Tryd.func4, Tryd.ntmps4
    go_wp2_with (first | (go_at_call 14; (with_reducible refine (few_any xs a c _ hr hxl).mono ?_); rintro e w0 ⟨rfl, rfl⟩; rw [hfew]) | (go_at_call 9; (with_reducible refine (example_any _ hM).mono ?_); rintro e w1 ⟨rfl, hb1⟩))
    go_ret
    exact ⟨rfl, hb1⟩
  | true =>
  by_cases hs : S.size ≤ 3000
  case neg =>
    have d1 : decide ((3000 : Int) < (S.size : Int)) = true := by rw [decide_eq_true_iff]; omega
    go_enter Tryd.func4, Tryd.ntmps4
    go_wp2_with (first | (go_at_call 14; (with_reducible refine (few_any xs a c _ hr hxl).mono ?_); rintro e w0 ⟨rfl, rfl⟩; rw [hfew]) | (go_at_call 9; (with_reducible refine (example_any _ hM).mono ?_); rintro e w1 ⟨rfl, hb1⟩))
    go_ret
    exact ⟨rfl, hb1⟩
  have d1 : decide ((3000 : Int) < (S.size : Int)) = false := by rw [decide_eq_false_iff_not]; omega
  obtain ⟨i0, hi, hz0, hz1, hz2⟩ := info_parts infoS
  have hn3 := few_len hfew
  obtain ⟨ls, hS⟩ : ∃ ls, S.data.toList = ls := ⟨_, rfl⟩
  have hls := str_size hS
  have hK : ∀ x ∈ xs, x.size ≤ 2000000 := fun x hx => by have := tot_mem hx; omega
  obtain ⟨Q, hQ⟩ : ∃ Q : ByteArray, (⟨(jfL xs).toArray⟩ : ByteArray) = Q := ⟨_, rfl⟩
  have J1 := fun (a : Option Addr) (c : Nat) W (h : RdV W a (strV xs)) => jfields_any xs a c W h (by omega) hK
  have J2 := fun (a : Option Addr) (c : Nat) W (h : RdV W a (strV xs)) => rjfields_any xs a c W h (by omega) hK
  rw [hQ] at J1 J2
  obtain ⟨n, hn⟩ : ∃ n, xs.length = n := ⟨_, rfl⟩
  have hsl := strV_len xs
  rw [hn] at hc hxl hn3 J1 J2 hsl
  have F1 := few_any xs a c w hr (by rw [hn]; exact hxl)
  rw [hn, hfew] at F1
  rw [hn]
  have hb0 := Below.refl w.heap.size w
  have hz0' := hb0.size
  have HJ1 := Lib.hid J1
  have HJ2 := Lib.hid J2
  have HF := Lib.hid F1
  clear J1 J2 F1 hQ hn hfew hb hK
  rcases sf_cases (fieldsL ls) with ⟨ys, hg⟩ | ⟨i, hg⟩
  · have HG := Lib.hid hg
    have hyl : ys.length ≤ 10000000 := by 
      have h1 := congrArg List.length hg
      rw [List.length_map, List.length_map] at h1
      have h2 := fields_cnt ls
      omega
    go_enter Tryd.func4, Tryd.ntmps4
    go_wp2_with (first
      | (go_at_call 14; (with_reducible refine HF.out.mono ?_); rintro e w0 ⟨rfl, hw0⟩; subst hw0)
      | (go_at_call 15; (with_reducible refine (fields_good S ls ys _ hS (by omega) hM hg).mono ?_); rintro e w1 ⟨a1, c1, rfl, Y1, hb1⟩; have hz1' := hb1.size)
      | (go_at_call 16; (with_reducible refine (rfields_good S ls ys _ hS (by omega) hg).mono ?_); rintro e w2 ⟨a2, c2, rfl, Z2, hb2'⟩; have Y2 := Y1.below hb2'; clear Y1; have hb2 := hb1.trans (hb2'.mono hz1'); have hz2' := hb2.size; clear hb2')
      | (at_builtin; go_loud (refine wpList_append_rd _ rfl _ _ _ rfl w2.heap.size 9 i0 (.string ⟨#[]⟩) 16 Tryd.underlying28 hi hz0 hz1 hz2 rfl (.slice (some ⟨w2.heap.size, 0, none⟩) 0 0) 0 [] rfl (own_made w2 #[] 9 0 rfl (Nat.zero_le _)) a n c (strV xs) rfl hsl ((hr.below hb2).below (Below.alloc (Below.refl w2.heap.size w2) (Nat.le_refl _) (.cells #[] 9))) (oneV xs) (by unfold maxLen; omega) (by omega) (Below.alloc (Below.refl w2.heap.size w2) (Nat.le_refl _) (.cells #[] 9)).size ?_; intro v3 w3 hown3 hg3 hv3; have hba := Below.alloc (Below.refl w2.heap.size w2) (Nat.le_refl _) (.cells #[] 9); have hbb : Below w2.heap.size w2 w3 := hba.grown hg3 hba.size (fun q hq => by cases hq; exact Nat.le_refl _); have hb3 := hb2.trans (hbb.mono hz2'); have hz3 := hb3.size; have Y3 := Y2.below hbb; have Z3 := Z2.below hbb; clear Y2 Z2; obtain ⟨a3, c3, rfl⟩ := own_slice hown3; have R3 := own_vals hown3; rw [List.nil_append] at R3; rw [Nat.zero_add]; clear hown3 hg3 hv3 hba hbb))
      | (go_at_call 17; (with_reducible refine (HJ1.out _ _ _ R3).mono ?_); rintro e w4 ⟨rfl, hb4'⟩; have Y4 := Y3.below hb4'; have Z4 := Z3.below hb4'; clear Y3 Z3; have hb4 := hb3.trans (hb4'.mono hz3); have hz4 := hb4.size; clear hb4' R3)
      | (go_at_call 18; (with_reducible refine (HJ2.out _ _ _ (hr.below hb4)).mono ?_); rintro e w5 ⟨rfl, m5, hw5⟩; have hb5' := be_drewN (Below.refl w4.heap.size w4) m5; rw [← hw5] at hb5'; clear hw5; have Y5 := Y4.below hb5'; have Z5 := Z4.below hb5'; clear Y4 Z4; have hb5 := hb4.trans (hb5'.mono hz4); have hz5 := hb5.size; clear hb5')
      | (go_at_call 19; (with_reducible refine (same_yes ys ys _ _ _ _ _ Y5 Z5 hyl rfl).mono ?_); rintro e w6 ⟨rfl, hb6'⟩; have hb6 := hb5.trans (hb6'.mono hz5); have hz6 := hb6.size; clear hb6')
      | (go_at_call 9; (with_reducible refine (example_any _ (hM.below hb6)).mono ?_); rintro e w7 ⟨rfl, hb7'⟩; have hb7 := hb6.trans (hb7'.mono hz6)))
    go_ret
    exact ⟨rfl, hb7⟩
  · have HG := Lib.hid hg
    go_enter Tryd.func4, Tryd.ntmps4
    go_wp2_with (first
      | (go_at_call 14; (with_reducible refine HF.out.mono ?_); rintro e w0 ⟨rfl, hw0⟩; subst hw0)
      | (go_at_call 15; (with_reducible refine (fields_bad S ls i _ hS (by omega) hM hg).mono ?_); rintro e w1 ⟨rfl, hb1⟩; have hz1' := hb1.size)
      | (go_at_call 16; (with_reducible refine (rfields_bad S ls i _ hS (by omega) hg).mono ?_); rintro e w2 ⟨rfl, hb2'⟩; have hb2 := hb1.trans (hb2'.mono hz1'); have hz2' := hb2.size; clear hb2')
      | (at_builtin; go_loud (refine wpList_append_rd _ rfl _ _ _ rfl w2.heap.size 9 i0 (.string ⟨#[]⟩) 16 Tryd.underlying28 hi hz0 hz1 hz2 rfl (.slice (some ⟨w2.heap.size, 0, none⟩) 0 0) 0 [] rfl (own_made w2 #[] 9 0 rfl (Nat.zero_le _)) a n c (strV xs) rfl hsl ((hr.below hb2).below (Below.alloc (Below.refl w2.heap.size w2) (Nat.le_refl _) (.cells #[] 9))) (oneV xs) (by unfold maxLen; omega) (by omega) (Below.alloc (Below.refl w2.heap.size w2) (Nat.le_refl _) (.cells #[] 9)).size ?_; intro v3 w3 hown3 hg3 hv3; have hba := Below.alloc (Below.refl w2.heap.size w2) (Nat.le_refl _) (.cells #[] 9); have hbb : Below w2.heap.size w2 w3 := hba.grown hg3 hba.size (fun q hq => by cases hq; exact Nat.le_refl _); have hb3 := hb2.trans (hbb.mono hz2'); have hz3 := hb3.size;  obtain ⟨a3, c3, rfl⟩ := own_slice hown3; have R3 := own_vals hown3; rw [List.nil_append] at R3; rw [Nat.zero_add]; clear hown3 hg3 hv3 hba hbb))
      | (go_at_call 17; (with_reducible refine (HJ1.out _ _ _ R3).mono ?_); rintro e w4 ⟨rfl, hb4'⟩; have hb4 := hb3.trans (hb4'.mono hz3); have hz4 := hb4.size; clear hb4' R3)
      | (go_at_call 18; (with_reducible refine (HJ2.out _ _ _ (hr.below hb4)).mono ?_); rintro e w5 ⟨rfl, m5, hw5⟩; have hb5' := be_drewN (Below.refl w4.heap.size w4) m5; rw [← hw5] at hb5'; clear hw5; have hb5 := hb4.trans (hb5'.mono hz4); have hz5 := hb5.size; clear hb5')
      | (go_at_call 19; (with_reducible refine (same0 _).mono ?_); rintro e w6 ⟨rfl, hb6'⟩; have hb6 := hb5.trans (hb6'.mono hz5); have hz6 := hb6.size; clear hb6')
      | (go_at_call 9; (with_reducible refine (example_any _ (hM.below hb6)).mono ?_); rintro e w7 ⟨rfl, hb7'⟩; have hb7 := hb6.trans (hb7'.mono hz6)))
    go_ret
    exact ⟨rfl, hb7⟩
end Go.Proofs.YtolnchfgdkeamaaDoor
