import Derived.Test.YtbplcgbfhijbcaaJK
namespace Go.Proofs.Ytbplcgbfhijbcaa
open Go.RowKit
set_option linter.unusedVariables false
set_option linter.unusedSimpArgs false
theorem same8_len (a b : Option Addr) (n c m d : Nat) (l k : List (BitVec 8)) (w : World) (hn : l.length = n) (hm : k.length = m) (hl : n ≤ 1000000000) (h : n ≠ m) :
    Calls Try.prog 15 #[.slice a n c, .slice b m d] w fun e w' => e = .returned (.bool false) ∧ Below w.heap.size w w' := by
  have q1 : ((n : Int) == (m : Int)) = false := by rw [beq_eq_false_iff_ne]; omega
  have q2 : ((n : Int) != (m : Int)) = true := by simp; omega
  go_enter Try.func15, Try.ntmps15
  go_wp2
  go_ret
  exact ⟨rfl, Below.refl _ _⟩
theorem same8_no (a b : Option Addr) (n c d : Nat) (l k : List (BitVec 8)) (w : World) (hn : l.length = n) (hm : k.length = n) (hl : n ≤ 1000000000) (hr : Rd w a l) (hs : Rd w b k) (h : l ≠ k) :
    Calls Try.prog 15 #[.slice a n c, .slice b n d] w fun e w' => e = .returned (.bool false) ∧ Below w.heap.size w w' := by
  subst hn
  have H := Lib.hid h
  clear h
  go_enter Try.func15, Try.ntmps15
  go_wp2
  go_loopw [5] (fun i wr => ∃ j : Nat, j ≤ l.length ∧ i = .int .i64 j ∧ Hid (l.take j = k.take j) ∧ ∃ n, wr = w.drewN n) (fun i _ => l.length - (intOf i).toNat)
  case atStart => exact ⟨0, Nat.zero_le _, rfl, rfl, 0, rfl⟩
  case round =>
    obtain ⟨j, hj, rfl, htk, n, rfl⟩ := hrel
    by_cases hlt : j < l.length
    · obtain ⟨ad, rfl, hc⟩ := hr j hlt
      obtain ⟨bd, rfl, hd⟩ := hs j (by omega)
      obtain ⟨x, hx⟩ : ∃ x, (l[j]).toNat = x := ⟨_, rfl⟩
      obtain ⟨y, hy⟩ : ∃ y, (k[j]'(by omega)).toNat = y := ⟨_, rfl⟩
      rw [hx] at hc
      rw [hy] at hd
      by_cases hxy : x = y
      · subst hxy
        have he : l[j] = k[j]'(by omega) := BitVec.eq_of_toNat_eq (by rw [hx, hy])
        have HT := Lib.hid (show l.take (j + 1) = k.take (j + 1) by rw [List.take_succ_eq_append_getElem hlt, List.take_succ_eq_append_getElem (by omega : j < k.length), htk.out, he])
        clear hx hy he
        go_wp2
        go_quiet (fail)
        go_wp2
        go_roundw
        case rel => exact ⟨j + 1, by omega, by go_num, HT.out, _, rfl⟩
        case measure => (simp [intOf]; try omega)
      · have q1 : ((x : Int) == (y : Int)) = false := by rw [beq_eq_false_iff_ne]; omega
        have q2 : ((x : Int) != (y : Int)) = true := by simp; omega
        clear hx hy
        go_wp2
        go_quiet (fail)
        go_wp2
        go_ret
        exact ⟨rfl, below_drewN (below_drewN (Below.refl _ _) n) _⟩
    · exact absurd (by have h1 := htk.out; rw [List.take_of_length_le (by omega), List.take_of_length_le (by omega)] at h1; exact h1) H.out
/-- Same, whatever its arguments. -/
theorem same8_any (a b : Option Addr) (n c m d : Nat) (l k : List (BitVec 8)) (w : World) (hn : l.length = n) (hm : k.length = m) (hl : n ≤ 1000000000) (hr : Rd w a l) (hs : Rd w b k) :
    Calls Try.prog 15 #[.slice a n c, .slice b m d] w fun e w' => e = .returned (.bool (decide (l = k))) ∧ Below w.heap.size w w' := by
  by_cases h : l = k
  · rw [decide_eq_true h]
    exact same8_yes a b n c m d l k w hn hm hl hr hs h
  · rw [decide_eq_false h]
    by_cases h2 : n = m
    · subst h2
      exact same8_no a b n c d l k w hn hm hl hr hs h
    · exact same8_len a b n c m d l k w hn hm hl h2
end Go.Proofs.Ytbplcgbfhijbcaa
