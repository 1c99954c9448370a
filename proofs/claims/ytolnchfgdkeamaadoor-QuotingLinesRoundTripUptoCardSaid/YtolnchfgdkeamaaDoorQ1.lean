import Derived.Test.YtolnchfgdkeamaaDoorRows
import Derived.Test.YtolnchfgdkeamaaDoorQs
import Derived.Test.YtolnchfgdkeamaaDoorShelf
import Derived.WalkKit
import Derived.WalkSpells
import Derived.WalkLawsBesides
import Derived.Lib.Hide
import Derived.Below
import Derived.Deep.QuietTactic
import Derived.BigQuiet
import Derived.IntWalk
import Derived.Laws.BitsAllLaws
namespace Go.Proofs.YtolnchfgdkeamaaDoor
open Go.RowKit
set_option linter.unusedVariables false
set_option linter.unusedSimpArgs false
theorem u8_back (c : UInt8) : ((c.toNat : Int)).toNat.toUInt8 = c := by
  rw [Int.toNat_natCast]
  exact UInt8.ofNat_toNat
theorem idx_any (s : ByteArray) (l : List UInt8) (c : UInt8) (w : World) (hs : s.data.toList = l) :
    Calls Tryd.prog 35 #[.string s, .int .u8 c.toNat] w fun e w' => e = .returned (.int .i64 (Lib.indexByte l c)) ∧ w = w' := by
  have h := Tryd.strings_IndexByte s (c.toNat : Int) w
  rw [hs, u8_back] at h
  exact h.mono fun _ _ h => ⟨h.1, h.2.symm⟩
theorem idx_lit (c : UInt8) : decide (0 ≤ Lib.indexByte litS c) = litS.contains c := by
  revert c
  exact all256 (by decide +kernel)
set_option maxRecDepth 50000 in
set_option maxHeartbeats 1000000 in
theorem lit_any (c : UInt8) (w : World) : Calls Tryd.prog 24 #[.int .u8 c.toNat] w fun e w' => e = .returned (.bool (lit c)) ∧ w = w' := by
  obtain ⟨x, hx⟩ : ∃ x, c.toNat = x := ⟨_, rfl⟩
  have hx256 : x < 256 := by rw [← hx]; exact c.toNat_lt
  have hi := idx_lit c
  have hl : lit c = ((decide (97 ≤ x) && decide (x ≤ 122)) || (decide (65 ≤ x) && decide (x ≤ 90)) || (decide (48 ≤ x) && decide (x ≤ 57)) || litS.contains c) := by unfold lit; rw [hx]
  obtain ⟨v, hv⟩ : ∃ v, Lib.indexByte litS c = v := ⟨_, rfl⟩
  have HI : ∀ W, Calls Tryd.prog 35 #[.string ⟨#[46, 95, 58, 47, 43, 45, 44, 61, 35]⟩, .int .u8 x] W fun e w' => e = .returned (.int .i64 v) ∧ W = w' := by
    intro W
    have h := idx_any ⟨#[46, 95, 58, 47, 43, 45, 44, 61, 35]⟩ litS c W rfl
    rw [hx, hv] at h
    exact h
  rw [hv] at hi
  rw [hx]
  obtain ⟨R, hR⟩ : ∃ R, lit c = R := ⟨_, rfl⟩
  rw [hR]
  have HR := Lib.hid (hR.symm.trans hl)
  have HC := Lib.hid hi
  clear hx hi hl hv hR
  have step : ∀ (p q : Nat), decide ((p : Int) ≤ (x : Int)) = decide (p ≤ x) ∧ decide ((x : Int) ≤ (q : Int)) = decide (x ≤ q) := fun p q => ⟨by simp, by simp⟩
  clear step
  go_enter Tryd.func24, Tryd.ntmps24
  go_wp2_with (go_at_call 35; (with_reducible refine (HI _).mono ?_); rintro e w1 ⟨rfl, rfl⟩)
  all_goals
    go_ret
    refine ⟨?_, rfl⟩
    rw [HR.out, ← HC.out]
    first
      | (rw [show (decide (97 ≤ x) && decide (x ≤ 122)) = true by simp; omega]; simp; done)
      | (rw [show (decide (65 ≤ x) && decide (x ≤ 90)) = true by simp; omega]; simp; done)
      | (rw [show (decide (48 ≤ x) && decide (x ≤ 57)) = true by simp; omega]; simp; done)
      | (rw [show (decide (97 ≤ x) && decide (x ≤ 122)) = false by simp; omega, show (decide (65 ≤ x) && decide (x ≤ 90)) = false by simp; omega, show (decide (48 ≤ x) && decide (x ≤ 57)) = false by simp; omega]; simp; done)
end Go.Proofs.YtolnchfgdkeamaaDoor
