import Derived.Test.YtolnchfgdkeamaaDoorQH
import Derived.WalkKit
import Derived.WalkSpells
import Derived.WalkLawsBesides
import Derived.Lib.Hide
import Derived.Below
import Derived.Deep.QuietTactic
import Derived.BigQuiet
import Derived.IntWalk
import Derived.Laws.BitsAllLaws
namespace Go.Proofs.YtolnchfgdkeamaaDoor
open Go.RowKit
set_option linter.unusedVariables false
set_option linter.unusedSimpArgs false
def SmR (w : World) (xs ys : List ByteArray) (n : Nat) (i : Value) (wr : World) : Prop := ∃ (j m : Nat), j ≤ n ∧ i = .int .i64 j ∧ Hid (xs.take j = ys.take j) ∧ wr = w.drewN m
set_option maxRecDepth 50000 in
set_option maxHeartbeats 4000000 in
theorem same_any (xs ys : List ByteArray) (a b : Option Addr) (c d : Nat) (w : World) (ha : RdV w a (strV xs)) (hb : RdV w b (strV ys)) (hx : xs.length ≤ 10000000) :
    Calls Tryd.prog 19 #[.slice a xs.length c, .slice b ys.length d] w fun e w' => e = .returned (.bool (decide (xs = ys))) ∧ ∃ m, w' = w.drewN m := by
  obtain ⟨n, hn⟩ : ∃ n, xs.length = n := ⟨_, rfl⟩
  obtain ⟨n2, hn2⟩ : ∃ n2, ys.length = n2 := ⟨_, rfl⟩
  rw [hn] at hx ⊢
  rw [hn2]
  by_cases hnn : n = n2
  case neg =>
    have hno : Hid (decide (xs = ys) = false) := by
      show _ = _
      rw [decide_eq_false_iff_not]
      intro e
      rw [e] at hn
      exact hnn (hn.symm.trans hn2)
    have h1 : ¬ ((n : Int) = (n2 : Int)) := by omega
    clear hn hn2 ha hb
    go_enter Tryd.func19, Tryd.ntmps19
    go_wp2
    go_ret
    exact ⟨by rw [hno.out]; rfl, 0, rfl⟩
  subst hnn
  have HN := Lib.hid hn
  have HN2 := Lib.hid hn2
  have HA := Lib.hid ha
  have HB := Lib.hid hb
  clear hn hn2 ha hb
  go_enter Tryd.func19, Tryd.ntmps19
  go_wp2
  go_loopw [5, 13] (fun _ i wr => SmR w xs ys n i wr) (fun _ i _ => n - (intOf i).toNat)
  case atStart => exact ⟨0, 0, Nat.zero_le _, rfl, rfl, rfl⟩
  case round =>
    obtain ⟨j, m, hj, rfl, hsm, rfl⟩ := hrel
    by_cases hlt : j < n
    · have hjw : j < xs.length := by have := HN.out; omega
      have hjw2 : j < ys.length := by have := HN2.out; omega
      obtain ⟨x, hx⟩ : ∃ x, xs[j]? = some x := ⟨_, List.getElem?_eq_getElem hjw⟩
      obtain ⟨y, hy⟩ : ∃ y, ys[j]? = some y := ⟨_, List.getElem?_eq_getElem hjw2⟩
      obtain ⟨ad, rfl, hc⟩ := HA.out j (.string x) (strV_get hx)
      obtain ⟨bd, rfl, hd⟩ := HB.out j (.string y) (strV_get hy)
      have HX := Lib.hid hx
      have HY := Lib.hid hy
      clear hx hy hjw hjw2
      by_cases hxy : x = y
      · subst hxy
        go_wp2
        go_quiet (fail)
        go_wp2
        go_roundw
        case rel =>
          refine ⟨j + 1, m + nq, by omega, by go_num, ?_, by simp⟩
          show _ = _
          rw [List.take_add_one, List.take_add_one, hsm.out, HX.out, HY.out]
        case measure => simp [intOf] <;> omega
      · have hno : Hid (decide (xs = ys) = false) := by
          show _ = _
          rw [decide_eq_false_iff_not]
          intro e
          have h1 := HX.out
          rw [e, HY.out] at h1
          exact hxy (Option.some.inj h1).symm
        have h1 : ¬ x.toList = y.toList := by
          rw [ByteArray.toList_eq, ByteArray.toList_eq]
          intro e
          exact hxy (data_inj e)
        have h2 : (x.toList == y.toList) = false := by
          rw [beq_eq_false_iff_ne]
          exact h1
        go_wp2
        go_quiet (fail)
        go_wp2
        go_ret
        exact ⟨by rw [hno.out]; rfl, m + nq, by simp⟩
    · obtain rfl : j = n := by omega
      have hyes : Hid (decide (xs = ys) = true) := by
        show _ = _
        rw [decide_eq_true_iff]
        have h1 := hsm.out
        rw [← HN.out, List.take_length, HN.out, ← HN2.out, List.take_length] at h1
        exact h1
      go_wp2
      go_ret
      exact ⟨by rw [hyes.out]; rfl, m, rfl⟩
def fewT (xs : List ByteArray) (k : Nat) : Nat := ((xs.take k).map fun x => min x.size 5000).sum
def fewB (xs : List ByteArray) : Bool := decide (xs.length ≤ 300) && decide (fewT xs 1000 ≤ 5000)
theorem fewT_at {xs : List ByteArray} {j : Nat} {x : ByteArray} (h : xs[j]? = some x) : fewT xs (j + 1) = fewT xs j + min x.size 5000 := by
  unfold fewT
  rw [List.take_add_one, h]
  simp
theorem fewT_le (xs : List ByteArray) (k : Nat) : fewT xs k ≤ 5000 * k := by
  induction k with
  | zero => simp [fewT]
  | succ k ih =>
    cases h : xs[k]? with
    | none =>
      have : fewT xs (k + 1) = fewT xs k := by
        unfold fewT
        rw [List.take_add_one, h]
        simp
      omega
    | some x =>
      rw [fewT_at h]
      have := Nat.min_le_right x.size 5000
      omega
def FwR (w : World) (xs : List ByteArray) (n : Nat) (sv i : Value) (wr : World) : Prop := ∃ (j t : Nat), j ≤ n ∧ j ≤ 1000 ∧ i = .int .i64 j ∧ sv = .int .i64 t ∧ t ≤ 5000 * j ∧ Hid (fewT xs j = t) ∧ wr = w
set_option maxRecDepth 50000 in
set_option maxHeartbeats 4000000 in
theorem few_any (xs : List ByteArray) (a : Option Addr) (c : Nat) (w : World) (ha : RdV w a (strV xs)) (hx : xs.length ≤ 9223372036854775807) :
    Calls Tryd.prog 14 #[.slice a xs.length c] w fun e w' => e = .returned (.bool (fewB xs)) ∧ w' = w := by
  obtain ⟨n, hn⟩ : ∃ n, xs.length = n := ⟨_, rfl⟩
  have hfb : Hid (fewB xs = (decide (n ≤ 300) && decide (fewT xs 1000 ≤ 5000))) := by show _ = _; rw [← hn]; rfl
  rw [hn] at hx ⊢
  have HN := Lib.hid hn
  have HA := Lib.hid ha
  clear hn ha
  go_enter Tryd.func14, Tryd.ntmps14
  go_wp2
  go_loopw [3, 4] (fun sv i wr => FwR w xs n sv i wr) (fun _ i _ => n - (intOf i).toNat)
  case atStart => exact ⟨0, 0, Nat.zero_le _, Nat.zero_le _, rfl, rfl, Nat.le_refl _, rfl, rfl⟩
  case round =>
    obtain ⟨j, t, hj, hj2, rfl, rfl, ht, hft, rfl⟩ := hrel
    by_cases hlt : j < n
    · by_cases hlt2 : j < 1000
      · have hjw : j < xs.length := by have := HN.out; omega
        obtain ⟨x, hx⟩ : ∃ x, xs[j]? = some x := ⟨_, List.getElem?_eq_getElem hjw⟩
        obtain ⟨ad, rfl, hc⟩ := HA.out j (.string x) (strV_get hx)
        obtain ⟨s, hs⟩ : ∃ s, min x.size 5000 = s := ⟨_, rfl⟩
        have hs5 : s ≤ 5000 := by omega
        have m1 : min (x.size : Int) 5000 = (s : Int) := by omega
        have m2 : (if (5000 : Int) < (x.size : Int) then (5000 : Int) else (x.size : Int)) = (s : Int) := by split <;> omega
        have hft2 : Hid (fewT xs (j + 1) = t + s) := by
          show _ = _
          rw [fewT_at hx, hft.out, hs]
        clear hs hx hjw
        go_wp2
        go_roundw
        case rel => exact ⟨j + 1, t + s, by omega, by omega, by go_num, by go_num, by omega, hft2, rfl⟩
        case measure => simp [intOf] <;> omega
      · have hno : Hid (fewB xs = false) := by
          show _ = _
          rw [hfb.out, show decide (n ≤ 300) = false by simp; omega]
          rfl
        have hn3 : 300 < n := by omega
        go_wp2
        go_ret
        exact ⟨by rw [hno.out]; rfl, rfl⟩
    · obtain rfl : j = n := by omega
      have hft3 : fewT xs 1000 = t := by
        rw [← hft.out]
        unfold fewT
        rw [List.take_of_length_le (by rw [HN.out]; omega), List.take_of_length_le (by rw [HN.out]; exact Nat.le_refl _)]
      rw [hft3] at hfb
      by_cases h3 : j ≤ 300
      · by_cases h5 : t ≤ 5000
        · have hyes : Hid (fewB xs = true) := by
            show _ = _
            rw [hfb.out]
            simp [h3, h5]
          have d5 : decide ((t : Int) ≤ 5000) = true := by rw [decide_eq_true_iff]; omega
          have d3 : decide ((j : Int) ≤ 300) = true := by rw [decide_eq_true_iff]; omega
          go_wp2
          go_ret
          exact ⟨by rw [hyes.out]; rfl, rfl⟩
        · have hno : Hid (fewB xs = false) := by
            show _ = _
            rw [hfb.out]
            simp [h5]
          have d5 : decide ((t : Int) ≤ 5000) = false := by rw [decide_eq_false_iff_not]; omega
          have d3 : decide ((j : Int) ≤ 300) = true := by rw [decide_eq_true_iff]; omega
          go_wp2
          go_ret
          exact ⟨by rw [hno.out]; rfl, rfl⟩
      · have hno : Hid (fewB xs = false) := by
          show _ = _
          rw [hfb.out]
          simp [h3]
        go_wp2
        go_ret
        exact ⟨by rw [hno.out]; rfl, rfl⟩
end Go.Proofs.YtolnchfgdkeamaaDoor
