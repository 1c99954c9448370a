import Derived.Test.YtbplcgbfhijbcaaJR
namespace Go.Proofs.Ytbplcgbfhijbcaa
open Go.RowKit
set_option linter.unusedVariables false
set_option linter.unusedSimpArgs false
attribute [local go_sem ↓] Go.wp_at_zero Go.wp_at_succ
theorem small_any (s t : Bool) (a b : Option Addr) (n c m d : Nat) (w : World) (hn : n ≤ 9223372036854775807) (hm : m ≤ 9223372036854775807) :
    Calls Try.prog 27 #[.agg #[.bool s, .slice a n c, .bool t, .slice b m d]] w fun e w' => e = .returned (.bool (decide (n ≤ 40) && decide (m ≤ 40))) ∧ Below w.heap.size w w' := by
  have hb0 := Below.alloc (Below.refl w.heap.size w) (Nat.le_refl _) (.cells #[Value.bool s, Value.slice a n c, Value.bool t, Value.slice b m d] 45)
  by_cases h : n ≤ 40
  · by_cases h2 : m ≤ 40
    · have d1 : decide ((n : Int) ≤ 40) = true := by simp; omega
      have d2 : decide ((m : Int) ≤ 40) = true := by simp; omega
      have e1 : (decide (n ≤ 40) && decide (m ≤ 40)) = true := by simp; omega
      rw [e1]
      go_enter Try.func27, Try.ntmps27
      go_wp2
      go_ret
      exact ⟨rfl, hb0⟩
    · have d1 : decide ((n : Int) ≤ 40) = true := by simp; omega
      have d2 : decide ((m : Int) ≤ 40) = false := by simp; omega
      have e1 : (decide (n ≤ 40) && decide (m ≤ 40)) = false := by simp; omega
      rw [e1]
      go_enter Try.func27, Try.ntmps27
      go_wp2
      go_ret
      exact ⟨rfl, hb0⟩
  · have d1 : decide ((n : Int) ≤ 40) = false := by simp; omega
    have e1 : (decide (n ≤ 40) && decide (m ≤ 40)) = false := by simp; omega
    rw [e1]
    go_enter Try.func27, Try.ntmps27
    go_wp2
    go_ret
    exact ⟨rfl, hb0⟩
theorem srat_nil (w : World) : Calls Try.prog 32 #[.agg #[.bool false, .slice none 0 0, .bool false, .slice none 0 0], .agg #[.bool false, .slice none 0 0, .bool false, .slice none 0 0]] w fun e w' => e = .returned (.bool true) ∧ Below w.heap.size w w' :=
  srat_yes false false none none none none 0 0 0 0 [] [] w (by decide) (by decide) (Rw.nil _ _) (Rw.nil _ _) (Rw.nil _ _) (Rw.nil _ _)
theorem putF_any (s t : Bool) (l k : List (BitVec 32)) (hl : l.length ≤ 2000) (hk : k.length ≤ 2000) : (putF (rnN (zv s (valD l)) (zv t (valD k))) (rnD (zv s (valD l)) (zv t (valD k)))).length ≤ 1000000000 :=
  putF_len _ _ (Nat.le_trans (rnN_len s t l k) (by omega)) (Nat.le_trans (rnD_len s t l k) (by omega))
theorem isrow_le {k : IntKind} {w : World} {a : Option Addr} {l c : Nat} {z : List Int} (h : IsRow k w a l c z) : l ≤ 9223372036854775807 := by
  rcases h with ⟨_, h, _⟩ | ⟨ad, _, h1, h2, _⟩
  · omega
  · unfold maxLen at h2; omega
end Go.Proofs.Ytbplcgbfhijbcaa