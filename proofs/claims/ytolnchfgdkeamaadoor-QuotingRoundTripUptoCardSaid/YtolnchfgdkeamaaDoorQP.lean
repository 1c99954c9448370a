import Derived.Test.YtolnchfgdkeamaaDoorQN
import Derived.WalkKit
import Derived.WalkSpells
import Derived.WalkLawsBesides
import Derived.Lib.Hide
import Derived.Below
import Derived.Deep.QuietTactic
import Derived.BigQuiet
import Derived.IntWalk
import Derived.Laws.BitsAllLaws
namespace Go.Proofs.YtolnchfgdkeamaaDoor
open Go.RowKit
set_option linter.unusedVariables false
set_option linter.unusedSimpArgs false
theorem flat_ge (s : List UInt8) : s.length ≤ (s.flatMap esc).length := by
  induction s with
  | nil => simp
  | cons c s ih =>
    have := esc_pos c
    rw [List.flatMap_cons, List.length_append, List.length_cons]
    omega
theorem unq_len {w s : List UInt8} (h : unqL w = some s) : s.length ≤ w.length := by
  have h1 := quote_unq h
  rw [← h1]
  unfold quoteL
  split
  · rename_i h0
    rw [h0]
    simp
  · exact flat_ge s
theorem fields_len {l w : List UInt8} (h : w ∈ fieldsL l) : w.length ≤ l.length := by
  unfold fieldsL at h
  split at h
  · cases h
  · exact cutL_len 32 l w h
def RtR (w : World) (n : Nat) (k : Value) (wr : World) : Prop := ∃ j : Nat, j ≤ n ∧ k = .int .i64 j ∧ Below w.heap.size w wr
theorem quote_unq_any (x : ByteArray) (hx : x.size ≤ 2000000) (w : World) : Calls Tryd.prog 12 #[.string x] w fun e w' => e = .returned (.string (qB x)) ∧ Below w.heap.size w w' :=
  quote_any x x.data.toList w rfl (by have h : x.size = x.data.toList.length := str_size rfl; omega)
theorem unq_quote_any (x : ByteArray) (hx : x.size ≤ 2000000) (w : World) : Calls Tryd.prog 10 #[.string (qB x)] w fun e w' => e = .returned (.tuple #[.string x, .int .i64 0]) ∧ Below w.heap.size w w' := by
  have h : x.size = x.data.toList.length := str_size rfl
  have hq := quoteL_le x.data.toList
  refine (unq_any (qB x) (quoteL x.data.toList) w rfl (by omega)).mono ?_
  rintro e w' ⟨rfl, hb⟩
  rw [unq_quote]
  refine ⟨?_, hb⟩
  show Ending.returned (.tuple #[.string ⟨x.data.toList.toArray⟩, .int .i64 0]) = _
  rw [show (⟨x.data.toList.toArray⟩ : ByteArray) = x from (eq_arr rfl).symm]
set_option maxRecDepth 50000 in
set_option maxHeartbeats 8000000 in
theorem quotingRoundTrip_walk (a : Option Addr) (xs : List ByteArray) (c : Nat) (S : ByteArray) (w : World) (hM : Mx w) (hr : RdV w a (strV xs)) (hc : xs.length ≤ c) (hx : c ≤ maxLen) (hb : tot xs + xs.length + S.size ≤ 1048576) :
    Calls Tryd.prog 6 #[.slice a xs.length c, .string S] w fun e w' => e = .returned (.bool true) ∧ Below w.heap.size w w' := by
  have hxl : xs.length ≤ 9223372036854775807 := Nat.le_trans hc hx
  cases hfew : fewB xs with
  | false =>
    go_enter Tryd.func6, Tryd.ntmps6
    go_wp2_with (first | (go_at_call 14; (with_reducible refine (few_any xs a c _ hr hxl).mono ?_); rintro e w0 ⟨rfl, rfl⟩; rw [hfew]) | (go_at_call 9; (with_reducible refine (example_any _ hM).mono ?_); rintro e w1 ⟨rfl, hb1⟩))
    go_ret
    exact ⟨rfl, hb1⟩
  | true =>
  by_cases hs : S.size ≤ 3000
  case neg =>
    have d1 : decide ((3000 : Int) < (S.size : Int)) = true := by rw [decide_eq_true_iff]; omega
    go_enter Tryd.func6, Tryd.ntmps6
    go_wp2_with (first | (go_at_call 14; (with_reducible refine (few_any xs a c _ hr hxl).mono ?_); rintro e w0 ⟨rfl, rfl⟩; rw [hfew]) | (go_at_call 9; (with_reducible refine (example_any _ hM).mono ?_); rintro e w1 ⟨rfl, hb1⟩))
    go_ret
    exact ⟨rfl, hb1⟩
  have d1 : decide ((3000 : Int) < (S.size : Int)) = false := by rw [decide_eq_false_iff_not]; omega
  have hn3 := few_len hfew
  obtain ⟨ls, hS⟩ : ∃ ls, S.data.toList = ls := ⟨_, rfl⟩
  have hls := str_size hS
  have hK : ∀ x ∈ xs, x.size ≤ 2000000 := fun x hx => by have := tot_mem hx; omega
  have hjs := jf_sum xs
  obtain ⟨Q, hQ⟩ : ∃ Q : ByteArray, (⟨(jfL xs).toArray⟩ : ByteArray) = Q := ⟨_, rfl⟩
  have hQd : Q.data.toList = jfL xs := by rw [← hQ]
  have J1 := fun (a : Option Addr) (c : Nat) W (h : RdV W a (strV xs)) => jfields_any xs a c W h (by omega) hK
  rw [hQ] at J1
  have J2 := fun W (h : Mx W) => fields_good Q (jfL xs) xs W hQd (by omega) h (good_join xs)
  have J3 := fun (a b : Option Addr) (c d : Nat) W (h1 : RdV W a (strV xs)) (h2 : RdV W b (strV xs)) => same_yes xs xs a b c d W h1 h2 (by omega) rfl
  have J4 := fun W => unq_any S ls W hS (by omega)
  have F1 := few_any xs a c w hr (by omega)
  obtain ⟨n, hn⟩ : ∃ n, xs.length = n := ⟨_, rfl⟩
  rw [hfew, hn] at F1
  rw [hn] at hc hxl hn3 J1 J2 J3
  rw [hn]
  have HN := Lib.hid hn
  have HK := Lib.hid hK
  have HR := Lib.hid hr
  have HJ1 := Lib.hid J1
  have HJ2 := Lib.hid J2
  have HJ3 := Lib.hid J3
  have HF := Lib.hid F1
  have HS := Lib.hid hS
  have hl4 : ls.length ≤ 3000 := by omega
  have main : ∀ (T : ByteArray) (k : Int), unV (unqL ls) = .tuple #[.string T, .int .i64 k] → (k = 3 ∨ (k = 0 ∧ quoteL T.data.toList = ls ∧ T.size ≤ 2000000)) →
      Calls Tryd.prog 6 #[.slice a n c, .string S] w fun e w' => e = .returned (.bool true) ∧ Below w.heap.size w w' := by
    intro T k hT hk
    rw [hT] at J4
    have HJ4 := Lib.hid J4
    clear J1 J2 J3 J4 F1 hQ hQd hn hfew hb hK hS hls hT hjs hs
    rcases sf_cases (fieldsL ls) with ⟨ys, hg⟩ | ⟨i, hg⟩
    · rcases hk with rfl | ⟨rfl, hk2, hk3⟩
      · have HG := Lib.hid hg
        have hjl := join_good hg
        have hyl : ys.length ≤ 3001 := by
          have h1 := congrArg List.length hg
          rw [List.length_map, List.length_map] at h1
          have h2 := fields_cnt ls
          omega
        have hyK : ∀ y ∈ ys, y.size ≤ 2000000 := by
          intro y hy
          have h1 : some y.data.toList ∈ (fieldsL ls).map unqL := by
            rw [hg]
            exact List.mem_map.2 ⟨y, hy, rfl⟩
          obtain ⟨wd, hw1, hw2⟩ := List.mem_map.1 h1
          have h3 := unq_len hw2
          have h4 : y.size = y.data.toList.length := str_size rfl
          have h5 := fields_len hw1
          omega
        have HY1 := Lib.hid (fun (a : Option Addr) (c : Nat) W (h : RdV W a (strV ys)) => by
          have := jfields_any ys a c W h (by omega) hyK
          rw [hjl, ← eq_arr HS.out] at this
          exact this)
        clear hg hjl hyK
        go_enter Tryd.func6, Tryd.ntmps6
        go_wp2_with (go_at_call 14; (with_reducible refine HF.out.mono ?_); rintro e w0 ⟨rfl, hw0⟩; have hw1 := hw0.symm; subst hw1)
        go_loopw [6, 7, 8, 28, 32] (fun _ _ _ k _ wr => RtR w n k wr) (fun _ _ _ k _ _ => n - (intOf k).toNat)
        case atStart => exact ⟨0, Nat.zero_le _, rfl, Below.refl _ _⟩
        case round =>
          obtain ⟨j, hj, rfl, hb0⟩ := hrel
          have hz0 := hb0.size
          by_cases hlt : j < n
          · have hjw : j < xs.length := by have := HN.out; omega
            obtain ⟨x, hxj⟩ : ∃ x, xs[j]? = some x := ⟨_, List.getElem?_eq_getElem hjw⟩
            obtain ⟨ad, rfl, hc⟩ := HR.out.below hb0 j (.string x) (strV_get hxj)
            have hxs := HK.out x (List.mem_of_getElem? hxj)
            clear hxj hjw
            go_wp2_with (first
              | (go_at_call 12; (with_reducible refine (quote_unq_any x hxs _).mono ?_); rintro e w1 ⟨rfl, hb1'⟩; have hb1 := hb0.trans (hb1'.mono hz0); have hz1 := hb1.size; clear hb1')
              | (go_at_call 10; (with_reducible refine (unq_quote_any x hxs _).mono ?_); rintro e w2 ⟨rfl, hb2'⟩; have hb2 := hb1.trans (hb2'.mono hz1); have hz2 := hb2.size; clear hb2'))
            go_roundw
            case rel => exact ⟨j + 1, by omega, by go_num, hb2⟩
            case measure => simp [intOf] <;> omega
          · obtain rfl : j = n := by omega
            go_wp2_with (first
          | (go_at_call 17; (with_reducible refine (HJ1.out _ _ _ (HR.out.below hb0)).mono ?_); rintro e w1 ⟨rfl, hb1'⟩; have hb1 := hb0.trans (hb1'.mono hz0); have hz1 := hb1.size; clear hb1')
          | (go_at_call 15; (with_reducible refine (HJ2.out _ (hM.below hb1)).mono ?_); rintro e w2 ⟨a2, c2, rfl, Y2, hb2'⟩; have hb2 := hb1.trans (hb2'.mono hz1); have hz2 := hb2.size; clear hb2')
          | (go_at_call 19; (with_reducible refine (HJ3.out _ _ _ _ _ Y2 (HR.out.below hb2)).mono ?_); rintro e w3 ⟨rfl, hb3'⟩; have hb3 := hb2.trans (hb3'.mono hz2); have hz3 := hb3.size; clear hb3' Y2)
          | (go_at_call 15; (with_reducible refine (fields_good S ls ys _ HS.out (by omega) (hM.below hb3) HG.out).mono ?_); rintro e w4 ⟨a4, c4, rfl, Y4, hb4'⟩; have hb4 := hb3.trans (hb4'.mono hz3); have hz4 := hb4.size; clear hb4')
          | (go_at_call 10; (with_reducible refine (HJ4.out _).mono ?_); rintro e w5 ⟨rfl, hb5'⟩; have Y5 := Y4.below hb5'; clear Y4; have hb5 := hb4.trans (hb5'.mono hz4); have hz5 := hb5.size; clear hb5')
          | (go_at_call 17; (with_reducible refine (HY1.out _ _ _ Y5).mono ?_); rintro e w6 ⟨rfl, hb6'⟩; have hb6 := hb5.trans (hb6'.mono hz5); have hz6 := hb6.size; clear hb6' Y5)
          | (go_at_call 9; (with_reducible refine (example_any _ (hM.below hb6)).mono ?_); rintro e w8 ⟨rfl, hb8'⟩; have hb8 := hb6.trans (hb8'.mono hz6)))
            go_ret
            exact ⟨rfl, hb8⟩
      · have HG := Lib.hid hg
        have hjl := join_good hg
        have hyl : ys.length ≤ 3001 := by
          have h1 := congrArg List.length hg
          rw [List.length_map, List.length_map] at h1
          have h2 := fields_cnt ls
          omega
        have hyK : ∀ y ∈ ys, y.size ≤ 2000000 := by
          intro y hy
          have h1 : some y.data.toList ∈ (fieldsL ls).map unqL := by
            rw [hg]
            exact List.mem_map.2 ⟨y, hy, rfl⟩
          obtain ⟨wd, hw1, hw2⟩ := List.mem_map.1 h1
          have h3 := unq_len hw2
          have h4 : y.size = y.data.toList.length := str_size rfl
          have h5 := fields_len hw1
          omega
        have HY1 := Lib.hid (fun (a : Option Addr) (c : Nat) W (h : RdV W a (strV ys)) => by
          have := jfields_any ys a c W h (by omega) hyK
          rw [hjl, ← eq_arr HS.out] at this
          exact this)
        have HT := Lib.hid (fun W => by
          have := quote_unq_any T hk3 W
          unfold qB at this
          rw [hk2, ← eq_arr HS.out] at this
          exact this)
        clear hg hjl hyK
        go_enter Tryd.func6, Tryd.ntmps6
        go_wp2_with (go_at_call 14; (with_reducible refine HF.out.mono ?_); rintro e w0 ⟨rfl, hw0⟩; have hw1 := hw0.symm; subst hw1)
        go_loopw [6, 7, 8, 28, 32] (fun _ _ _ k _ wr => RtR w n k wr) (fun _ _ _ k _ _ => n - (intOf k).toNat)
        case atStart => exact ⟨0, Nat.zero_le _, rfl, Below.refl _ _⟩
        case round =>
          obtain ⟨j, hj, rfl, hb0⟩ := hrel
          have hz0 := hb0.size
          by_cases hlt : j < n
          · have hjw : j < xs.length := by have := HN.out; omega
            obtain ⟨x, hxj⟩ : ∃ x, xs[j]? = some x := ⟨_, List.getElem?_eq_getElem hjw⟩
            obtain ⟨ad, rfl, hc⟩ := HR.out.below hb0 j (.string x) (strV_get hxj)
            have hxs := HK.out x (List.mem_of_getElem? hxj)
            clear hxj hjw
            go_wp2_with (first
              | (go_at_call 12; (with_reducible refine (quote_unq_any x hxs _).mono ?_); rintro e w1 ⟨rfl, hb1'⟩; have hb1 := hb0.trans (hb1'.mono hz0); have hz1 := hb1.size; clear hb1')
              | (go_at_call 10; (with_reducible refine (unq_quote_any x hxs _).mono ?_); rintro e w2 ⟨rfl, hb2'⟩; have hb2 := hb1.trans (hb2'.mono hz1); have hz2 := hb2.size; clear hb2'))
            go_roundw
            case rel => exact ⟨j + 1, by omega, by go_num, hb2⟩
            case measure => simp [intOf] <;> omega
          · obtain rfl : j = n := by omega
            go_wp2_with (first
          | (go_at_call 17; (with_reducible refine (HJ1.out _ _ _ (HR.out.below hb0)).mono ?_); rintro e w1 ⟨rfl, hb1'⟩; have hb1 := hb0.trans (hb1'.mono hz0); have hz1 := hb1.size; clear hb1')
          | (go_at_call 15; (with_reducible refine (HJ2.out _ (hM.below hb1)).mono ?_); rintro e w2 ⟨a2, c2, rfl, Y2, hb2'⟩; have hb2 := hb1.trans (hb2'.mono hz1); have hz2 := hb2.size; clear hb2')
          | (go_at_call 19; (with_reducible refine (HJ3.out _ _ _ _ _ Y2 (HR.out.below hb2)).mono ?_); rintro e w3 ⟨rfl, hb3'⟩; have hb3 := hb2.trans (hb3'.mono hz2); have hz3 := hb3.size; clear hb3' Y2)
          | (go_at_call 15; (with_reducible refine (fields_good S ls ys _ HS.out (by omega) (hM.below hb3) HG.out).mono ?_); rintro e w4 ⟨a4, c4, rfl, Y4, hb4'⟩; have hb4 := hb3.trans (hb4'.mono hz3); have hz4 := hb4.size; clear hb4')
          | (go_at_call 10; (with_reducible refine (HJ4.out _).mono ?_); rintro e w5 ⟨rfl, hb5'⟩; have Y5 := Y4.below hb5'; clear Y4; have hb5 := hb4.trans (hb5'.mono hz4); have hz5 := hb5.size; clear hb5')
          | (go_at_call 17; (with_reducible refine (HY1.out _ _ _ Y5).mono ?_); rintro e w6 ⟨rfl, hb6'⟩; have hb6 := hb5.trans (hb6'.mono hz5); have hz6 := hb6.size; clear hb6' Y5)
          | (go_at_call 12; (with_reducible refine (HT.out _).mono ?_); rintro e w7 ⟨rfl, hb7'⟩; have hb7 := hb6.trans (hb7'.mono hz6); have hz7 := hb7.size; clear hb7')
          | (go_at_call 9; (with_reducible refine (example_any _ (hM.below hb7)).mono ?_); rintro e w8 ⟨rfl, hb8'⟩; have hb8 := hb7.trans (hb8'.mono hz7)))
            go_ret
            exact ⟨rfl, hb8⟩
    · rcases hk with rfl | ⟨rfl, hk2, hk3⟩
      · have HG := Lib.hid hg
        clear hg
        go_enter Tryd.func6, Tryd.ntmps6
        go_wp2_with (go_at_call 14; (with_reducible refine HF.out.mono ?_); rintro e w0 ⟨rfl, hw0⟩; have hw1 := hw0.symm; subst hw1)
        go_loopw [6, 7, 8, 28, 32] (fun _ _ _ k _ wr => RtR w n k wr) (fun _ _ _ k _ _ => n - (intOf k).toNat)
        case atStart => exact ⟨0, Nat.zero_le _, rfl, Below.refl _ _⟩
        case round =>
          obtain ⟨j, hj, rfl, hb0⟩ := hrel
          have hz0 := hb0.size
          by_cases hlt : j < n
          · have hjw : j < xs.length := by have := HN.out; omega
            obtain ⟨x, hxj⟩ : ∃ x, xs[j]? = some x := ⟨_, List.getElem?_eq_getElem hjw⟩
            obtain ⟨ad, rfl, hc⟩ := HR.out.below hb0 j (.string x) (strV_get hxj)
            have hxs := HK.out x (List.mem_of_getElem? hxj)
            clear hxj hjw
            go_wp2_with (first
              | (go_at_call 12; (with_reducible refine (quote_unq_any x hxs _).mono ?_); rintro e w1 ⟨rfl, hb1'⟩; have hb1 := hb0.trans (hb1'.mono hz0); have hz1 := hb1.size; clear hb1')
              | (go_at_call 10; (with_reducible refine (unq_quote_any x hxs _).mono ?_); rintro e w2 ⟨rfl, hb2'⟩; have hb2 := hb1.trans (hb2'.mono hz1); have hz2 := hb2.size; clear hb2'))
            go_roundw
            case rel => exact ⟨j + 1, by omega, by go_num, hb2⟩
            case measure => simp [intOf] <;> omega
          · obtain rfl : j = n := by omega
            go_wp2_with (first
          | (go_at_call 17; (with_reducible refine (HJ1.out _ _ _ (HR.out.below hb0)).mono ?_); rintro e w1 ⟨rfl, hb1'⟩; have hb1 := hb0.trans (hb1'.mono hz0); have hz1 := hb1.size; clear hb1')
          | (go_at_call 15; (with_reducible refine (HJ2.out _ (hM.below hb1)).mono ?_); rintro e w2 ⟨a2, c2, rfl, Y2, hb2'⟩; have hb2 := hb1.trans (hb2'.mono hz1); have hz2 := hb2.size; clear hb2')
          | (go_at_call 19; (with_reducible refine (HJ3.out _ _ _ _ _ Y2 (HR.out.below hb2)).mono ?_); rintro e w3 ⟨rfl, hb3'⟩; have hb3 := hb2.trans (hb3'.mono hz2); have hz3 := hb3.size; clear hb3' Y2)
          | (go_at_call 15; (with_reducible refine (fields_bad S ls i _ HS.out (by omega) (hM.below hb3) HG.out).mono ?_); rintro e w4 ⟨rfl, hb4'⟩; have hb4 := hb3.trans (hb4'.mono hz3); have hz4 := hb4.size; clear hb4')
          | (go_at_call 10; (with_reducible refine (HJ4.out _).mono ?_); rintro e w5 ⟨rfl, hb5'⟩; have hb5 := hb4.trans (hb5'.mono hz4); have hz5 := hb5.size; clear hb5')
          | (go_at_call 9; (with_reducible refine (example_any _ (hM.below hb5)).mono ?_); rintro e w8 ⟨rfl, hb8'⟩; have hb8 := hb5.trans (hb8'.mono hz5)))
            go_ret
            exact ⟨rfl, hb8⟩
      · have HG := Lib.hid hg
        have HT := Lib.hid (fun W => by
          have := quote_unq_any T hk3 W
          unfold qB at this
          rw [hk2, ← eq_arr HS.out] at this
          exact this)
        clear hg
        go_enter Tryd.func6, Tryd.ntmps6
        go_wp2_with (go_at_call 14; (with_reducible refine HF.out.mono ?_); rintro e w0 ⟨rfl, hw0⟩; have hw1 := hw0.symm; subst hw1)
        go_loopw [6, 7, 8, 28, 32] (fun _ _ _ k _ wr => RtR w n k wr) (fun _ _ _ k _ _ => n - (intOf k).toNat)
        case atStart => exact ⟨0, Nat.zero_le _, rfl, Below.refl _ _⟩
        case round =>
          obtain ⟨j, hj, rfl, hb0⟩ := hrel
          have hz0 := hb0.size
          by_cases hlt : j < n
          · have hjw : j < xs.length := by have := HN.out; omega
            obtain ⟨x, hxj⟩ : ∃ x, xs[j]? = some x := ⟨_, List.getElem?_eq_getElem hjw⟩
            obtain ⟨ad, rfl, hc⟩ := HR.out.below hb0 j (.string x) (strV_get hxj)
            have hxs := HK.out x (List.mem_of_getElem? hxj)
            clear hxj hjw
            go_wp2_with (first
              | (go_at_call 12; (with_reducible refine (quote_unq_any x hxs _).mono ?_); rintro e w1 ⟨rfl, hb1'⟩; have hb1 := hb0.trans (hb1'.mono hz0); have hz1 := hb1.size; clear hb1')
              | (go_at_call 10; (with_reducible refine (unq_quote_any x hxs _).mono ?_); rintro e w2 ⟨rfl, hb2'⟩; have hb2 := hb1.trans (hb2'.mono hz1); have hz2 := hb2.size; clear hb2'))
            go_roundw
            case rel => exact ⟨j + 1, by omega, by go_num, hb2⟩
            case measure => simp [intOf] <;> omega
          · obtain rfl : j = n := by omega
            go_wp2_with (first
          | (go_at_call 17; (with_reducible refine (HJ1.out _ _ _ (HR.out.below hb0)).mono ?_); rintro e w1 ⟨rfl, hb1'⟩; have hb1 := hb0.trans (hb1'.mono hz0); have hz1 := hb1.size; clear hb1')
          | (go_at_call 15; (with_reducible refine (HJ2.out _ (hM.below hb1)).mono ?_); rintro e w2 ⟨a2, c2, rfl, Y2, hb2'⟩; have hb2 := hb1.trans (hb2'.mono hz1); have hz2 := hb2.size; clear hb2')
          | (go_at_call 19; (with_reducible refine (HJ3.out _ _ _ _ _ Y2 (HR.out.below hb2)).mono ?_); rintro e w3 ⟨rfl, hb3'⟩; have hb3 := hb2.trans (hb3'.mono hz2); have hz3 := hb3.size; clear hb3' Y2)
          | (go_at_call 15; (with_reducible refine (fields_bad S ls i _ HS.out (by omega) (hM.below hb3) HG.out).mono ?_); rintro e w4 ⟨rfl, hb4'⟩; have hb4 := hb3.trans (hb4'.mono hz3); have hz4 := hb4.size; clear hb4')
          | (go_at_call 10; (with_reducible refine (HJ4.out _).mono ?_); rintro e w5 ⟨rfl, hb5'⟩; have hb5 := hb4.trans (hb5'.mono hz4); have hz5 := hb5.size; clear hb5')
          | (go_at_call 12; (with_reducible refine (HT.out _).mono ?_); rintro e w7 ⟨rfl, hb7'⟩; have hb7 := hb5.trans (hb7'.mono hz5); have hz7 := hb7.size; clear hb7')
          | (go_at_call 9; (with_reducible refine (example_any _ (hM.below hb7)).mono ?_); rintro e w8 ⟨rfl, hb8'⟩; have hb8 := hb7.trans (hb8'.mono hz7)))
            go_ret
            exact ⟨rfl, hb8⟩
  cases hu : unqL ls with
  | none => exact main ⟨#[]⟩ 3 (by rw [hu]; rfl) (.inl rfl)
  | some t =>
    have h1 := unq_len hu
    refine main ⟨t.toArray⟩ 0 (by rw [hu]; rfl) (.inr ⟨rfl, quote_unq hu, ?_⟩)
    show t.toArray.size ≤ _
    rw [List.size_toArray]
    omega
end Go.Proofs.YtolnchfgdkeamaaDoor
