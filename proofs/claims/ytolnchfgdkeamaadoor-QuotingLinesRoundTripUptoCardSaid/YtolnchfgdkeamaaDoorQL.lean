import Derived.Test.YtolnchfgdkeamaaDoorQK
import Derived.WalkKit
import Derived.WalkSpells
import Derived.WalkLawsBesides
import Derived.Lib.Hide
import Derived.Below
import Derived.Deep.QuietTactic
import Derived.BigQuiet
import Derived.IntWalk
import Derived.Laws.BitsAllLaws
namespace Go.Proofs.YtolnchfgdkeamaaDoor
open Go.RowKit
set_option linter.unusedVariables false
set_option linter.unusedSimpArgs false
def wordB (c : UInt8) : Bool := lit c || c == 42
theorem esc_word (c : UInt8) : (esc c).all wordB = true := by
  revert c
  exact all256 (by decide +kernel)
theorem quote_word (s : List UInt8) : ∀ c ∈ quoteL s, wordB c = true := by
  intro c hc
  unfold quoteL at hc
  split at hc
  · simp at hc; subst hc; decide
  · obtain ⟨b, _, h⟩ := List.mem_flatMap.1 hc
    exact List.all_eq_true.1 (esc_word b) c h
theorem word_cases (c : UInt8) (h : wordB c = true) (x : Nat) (hx : c.toNat = x) : (97 ≤ x ∧ x ≤ 122) ∨ (65 ≤ x ∧ x ≤ 90) ∨ (48 ≤ x ∧ x ≤ 57) ∨ x = 46 ∨ x = 95 ∨ x = 42 ∨ (43 ≤ x ∧ x ≤ 45) ∨ x = 47 ∨ x = 58 ∨ x = 61 ∨ x = 35 := by
  subst hx
  revert h
  revert c
  refine all256 ?_
  decide +kernel
theorem quote_ne (s : List UInt8) : quoteL s ≠ [] := by
  unfold quoteL
  split
  · simp
  · rename_i h
    exact (flat_ne h).1
theorem quote_inj {s t : List UInt8} (h : quoteL s = quoteL t) : s = t := by
  have h1 := unq_quote s
  rw [h, unq_quote t] at h1
  exact (Option.some.inj h1).symm
def AlR (w1 : World) (n : Nat) (i : Value) (wr : World) : Prop := ∃ p : Nat, p ≤ n ∧ i = .int .i64 p ∧ wr = w1
set_option maxRecDepth 50000 in
set_option maxHeartbeats 8000000 in
theorem quotingAlphabet_walk (S T : ByteArray) (w : World) (hM : Mx w) :
    Calls Tryd.prog 7 #[.string S, .string T] w fun e w' => e = .returned (.bool true) ∧ Below w.heap.size w w' := by
  by_cases hs : S.size ≤ 2000
  case neg =>
    have d1 : decide ((2000 : Int) < (S.size : Int)) = true := by rw [decide_eq_true_iff]; omega
    go_enter Tryd.func7, Tryd.ntmps7
    go_wp2_with (go_at_call 9; (with_reducible refine (example_any _ hM).mono ?_); rintro e w1 ⟨rfl, hb1⟩)
    go_ret
    exact ⟨rfl, hb1⟩
  have d1 : decide ((2000 : Int) < (S.size : Int)) = false := by rw [decide_eq_false_iff_not]; omega
  by_cases hv : T.size ≤ 2000
  case neg =>
    have d2 : decide ((2000 : Int) < (T.size : Int)) = true := by rw [decide_eq_true_iff]; omega
    go_enter Tryd.func7, Tryd.ntmps7
    go_wp2_with (go_at_call 9; (with_reducible refine (example_any _ hM).mono ?_); rintro e w1 ⟨rfl, hb1⟩)
    go_ret
    exact ⟨rfl, hb1⟩
  have d2 : decide ((2000 : Int) < (T.size : Int)) = false := by rw [decide_eq_false_iff_not]; omega
  obtain ⟨ls, hS⟩ : ∃ ls, S.data.toList = ls := ⟨_, rfl⟩
  obtain ⟨lt, hT⟩ : ∃ lt, T.data.toList = lt := ⟨_, rfl⟩
  have hls := str_size hS
  have hlt := str_size hT
  have hqs := quoteL_le ls
  have U1 := fun W => quote_any S ls W hS (by omega)
  have U2 := fun W => quote_any T lt W hT (by omega)
  obtain ⟨Q, hQ⟩ : ∃ Q : ByteArray, (⟨(quoteL ls).toArray⟩ : ByteArray) = Q := ⟨_, rfl⟩
  obtain ⟨R, hR⟩ : ∃ R : ByteArray, (⟨(quoteL lt).toArray⟩ : ByteArray) = R := ⟨_, rfl⟩
  have hQd : Q.data.toList = quoteL ls := by rw [← hQ]
  have hRd : R.data.toList = quoteL lt := by rw [← hR]
  rw [hQ] at U1
  rw [hR] at U2
  obtain ⟨n, hn⟩ : ∃ n, Q.size = n := ⟨_, rfl⟩
  have hQs := str_size hQd
  have hn2 : n ≤ 3 * S.size + 1 := by omega
  have hne2 : ¬ Q.toList = [] := by
    rw [ByteArray.toList_eq, hQd]
    exact quote_ne ls
  have hne : Q.toList.isEmpty = false := by
    cases hq : Q.toList with
    | nil => exact absurd hq hne2
    | cons _ _ => rfl
  have d3 : decide ((3 * (S.size : Int) + 1) < (n : Int)) = false := by rw [decide_eq_false_iff_not]; omega
  have hb0 := Below.refl w.heap.size w
  have hz0 := hb0.size
  have HW : Hid (∀ (p : Nat) (h : p < Q.size), wordB (Q[p]'h) = true) := fun p h => by
    have hp : p < (quoteL ls).length := by omega
    rw [str_get hQd p h hp]
    exact quote_word ls _ (List.getElem_mem hp)
  have U1' := Lib.hid U1
  have U2' := Lib.hid U2
  have main : ∀ (t : Bool), decide (Q.toList = R.toList) = t → decide (S.toList = T.toList) = t →
      Calls Tryd.prog 7 #[.string S, .string T] w fun e w' => e = .returned (.bool true) ∧ Below w.heap.size w w' := by
    intro t e1 e2
    have e3 : (Q.toList == R.toList) = t := by rw [← e1, Bool.eq_iff_iff]; simp
    have e4 : (S.toList == T.toList) = t := by rw [← e2, Bool.eq_iff_iff]; simp
    clear hS hT hls hlt hqs U1 U2 hQ hR hQd hRd hQs
    go_enter Tryd.func7, Tryd.ntmps7
    go_wp2_with (first
      | (go_at_call 12; (with_reducible refine (U1'.out _).mono ?_); rintro e w1 ⟨rfl, hb1⟩; have hz1 := hb1.size)
      | (go_at_call 12; (with_reducible refine (U2'.out _).mono ?_); rintro e w2 ⟨rfl, hb2'⟩; have hb2 := hb1.trans (hb2'.mono hz1); have hz2 := hb2.size; have hM2 := hM.below hb2; clear hb1 hb2'))
    clear hne2 hne
    go_loopw [6, 7, 49, 68] (fun i _ _ _ wr => AlR w2 n i wr) (fun i _ _ _ _ => n - (intOf i).toNat)
    case atStart => exact ⟨0, Nat.zero_le _, rfl, rfl⟩
    case round =>
      obtain ⟨p, hp, rfl, rfl⟩ := hrel
      by_cases hlt : p < n
      · have hps : p < Q.size := by omega
        obtain ⟨x, hx⟩ : ∃ x, (Q[p]'hps).toNat = x := ⟨_, rfl⟩
        have hw := word_cases _ (HW.out p hps) x hx
        clear e1 e2 e3 e4
        rcases hw with ⟨g1, g2⟩ | ⟨g1, g2⟩ | ⟨g1, g2⟩ | g1 | g1 | g1 | ⟨g1, g2⟩ | g1 | g1 | g1 | g1
        all_goals
          try subst g1
          go_wp2
          go_roundw
          case rel => exact ⟨p + 1, by omega, by go_num, rfl⟩
          case measure => simp [intOf] <;> omega
      · obtain rfl : p = n := by omega
        go_wp2_with (go_at_call 9; (with_reducible refine (example_any _ hM2).mono ?_); rintro e w6 ⟨rfl, hb6'⟩; have hb6 := hb2.trans (hb6'.mono hz2))
        go_ret
        exact ⟨rfl, hb6⟩
  by_cases hst : S = T
  · refine main true (decide_eq_true ?_) (decide_eq_true (by rw [hst]))
    rw [ByteArray.toList_eq, ByteArray.toList_eq, hQd, hRd, ← hS, ← hT, hst]
  · refine main false (decide_eq_false ?_) (decide_eq_false ?_)
    · rw [ByteArray.toList_eq, ByteArray.toList_eq, hQd, hRd]
      intro e
      apply hst
      apply data_inj
      rw [hS, hT]
      exact quote_inj e
    · rw [ByteArray.toList_eq, ByteArray.toList_eq]
      intro e
      exact hst (data_inj e)
end Go.Proofs.YtolnchfgdkeamaaDoor
