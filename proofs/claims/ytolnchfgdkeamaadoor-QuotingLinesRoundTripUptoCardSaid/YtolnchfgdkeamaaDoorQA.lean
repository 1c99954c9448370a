import Derived.Test.YtolnchfgdkeamaaDoorQ3
import Derived.Test.YtolnchfgdkeamaaDoorQ9
import Derived.WalkKit
import Derived.WalkSpells
import Derived.WalkLawsBesides
import Derived.Lib.Hide
import Derived.Below
import Derived.Deep.QuietTactic
import Derived.BigQuiet
import Derived.IntWalk
import Derived.Laws.BitsAllLaws
namespace Go.Proofs.YtolnchfgdkeamaaDoor
open Go.RowKit
set_option linter.unusedVariables false
set_option linter.unusedSimpArgs false
set_option maxRecDepth 50000 in
set_option maxHeartbeats 4000000 in
theorem digit_any (c : UInt8) (w : World) : Calls Tryd.prog 28 #[.int .u8 c.toNat] w fun e w' => e = .returned (.int .i64 (hexi c)) ∧ w = w' := by
  obtain ⟨x, hx⟩ : ∃ x, c.toNat = x := ⟨_, rfl⟩
  have hx256 : x < 256 := by rw [← hx]; exact c.toNat_lt
  rw [hx]
  have hl : hexi c = if 48 ≤ x ∧ x ≤ 57 then ((x - 48 : Nat) : Int) else if 97 ≤ x ∧ x ≤ 102 then ((x - 87 : Nat) : Int) else -1 := by
    unfold hexi hexv
    rw [hx]
    by_cases h1 : 48 ≤ x ∧ x ≤ 57
    · simp only [h1, and_self, if_true]
    · by_cases h2 : 97 ≤ x ∧ x ≤ 102
      · simp only [h1, h2, and_self, if_true, if_false]
      · simp only [h1, h2, if_false]
  obtain ⟨v, hv⟩ : ∃ v, hexi c = v := ⟨_, rfl⟩
  rw [hv] at hl ⊢
  clear hx hv
  by_cases h1 : 48 ≤ x ∧ x ≤ 57
  · rw [if_pos h1] at hl
    obtain ⟨h2, h3⟩ := h1
    have HL := Lib.hid hl
    clear hl
    go_enter Tryd.func28, Tryd.ntmps28
    go_wp2
    go_ret
    refine ⟨?_, rfl⟩
    rw [HL.out]
    first | rfl | (congr 2; omega) | (simp; omega)
  · by_cases h2 : 97 ≤ x ∧ x ≤ 102
    · rw [if_neg h1, if_pos h2] at hl
      have HL := Lib.hid hl
      obtain ⟨h3, h4⟩ := h2
      clear hl h1
      go_enter Tryd.func28, Tryd.ntmps28
      go_wp2
      go_ret
      refine ⟨?_, rfl⟩
      rw [HL.out]
      first | rfl | (congr 2; omega) | (simp; omega)
    · rw [if_neg h1, if_neg h2] at hl
      have HL := Lib.hid hl
      have hB : x < 48 ∨ (57 < x ∧ x < 97) ∨ 102 < x := by omega
      clear hl h1 h2
      rcases hB with h1 | ⟨h1, h2⟩ | h1
      all_goals
        go_enter Tryd.func28, Tryd.ntmps28
        go_wp2
        go_ret
        refine ⟨?_, rfl⟩
        rw [HL.out]
        rfl
end Go.Proofs.YtolnchfgdkeamaaDoor
