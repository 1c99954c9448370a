import Derived.Test.YtolnchfgdkeamaaDoorQ8
import Derived.WalkKit
import Derived.WalkSpells
import Derived.WalkLawsBesides
import Derived.Lib.Hide
import Derived.Below
import Derived.Deep.QuietTactic
import Derived.BigQuiet
import Derived.IntWalk
import Derived.Laws.BitsAllLaws
namespace Go.Proofs.YtolnchfgdkeamaaDoor
open Go.RowKit
set_option linter.unusedVariables false
set_option linter.unusedSimpArgs false
theorem lits_at (k : Nat) (h : k < (⟨#[46, 95, 58, 47, 43, 45, 44, 61, 35]⟩ : ByteArray).size) : ∃ (h2 : k < litS.length), ((⟨#[46, 95, 58, 47, 43, 45, 44, 61, 35]⟩ : ByteArray)[k]'h).toNat = (litS[k]).toNat := ⟨h, rfl⟩
def StR (c : UInt8) (i : Value) (w wr : World) : Prop := ∃ j : Nat, j ≤ 9 ∧ i = .int .i64 j ∧ Hid ((litS.take j).contains c = false) ∧ wr = w
theorem take_has (c : UInt8) (j : Nat) (h : j < litS.length) : (litS.take (j + 1)).contains c = ((litS.take j).contains c || litS[j] == c) := by
  rw [List.take_succ_eq_append_getElem h, List.contains_eq_any_beq, List.contains_eq_any_beq, List.any_append]
  simp [Bool.beq_comm, eq_comm]
theorem has_all (c : UInt8) (h : (litS.take 9).contains c = false) : litS.contains c = false := h
theorem has_one (c : UInt8) (j : Nat) (h : j < litS.length) (e : litS[j] = c) : litS.contains c = true := by
  rw [← e, List.contains_iff_mem]
  exact List.getElem_mem h
set_option maxRecDepth 50000 in
set_option maxHeartbeats 4000000 in
theorem stands_any (c : UInt8) (w : World) : Calls Tryd.prog 29 #[.int .u8 c.toNat] w fun e w' => e = .returned (.bool (lit c)) ∧ w = w' := by
  obtain ⟨x, hx⟩ : ∃ x, c.toNat = x := ⟨_, rfl⟩
  have hx256 : x < 256 := by rw [← hx]; exact c.toNat_lt
  have hl : lit c = ((decide (97 ≤ x) && decide (x ≤ 122)) || (decide (65 ≤ x) && decide (x ≤ 90)) || (decide (48 ≤ x) && decide (x ≤ 57)) || litS.contains c) := by unfold lit; rw [hx]
  rw [hx]
  obtain ⟨R, hR⟩ : ∃ R, lit c = R := ⟨_, rfl⟩
  rw [hR] at hl ⊢
  by_cases hA : (97 ≤ x ∧ x ≤ 122) ∨ (65 ≤ x ∧ x ≤ 90) ∨ (48 ≤ x ∧ x ≤ 57)
  · obtain rfl : R = true := by
      rw [hl]
      rcases hA with h | h | h
      · simp [h.1, h.2]
      · simp [h.1, h.2]
      · simp [h.1, h.2]
    clear hl hR hx
    rcases hA with ⟨h1, h2⟩ | ⟨h1, h2⟩ | ⟨h1, h2⟩
    all_goals
      go_enter Tryd.func29, Tryd.ntmps29
      go_wp2
      go_ret
      exact ⟨rfl, rfl⟩
  · have hl2 : R = litS.contains c := by
      rw [hl, show (decide (97 ≤ x) && decide (x ≤ 122)) = false by simp; omega, show (decide (65 ≤ x) && decide (x ≤ 90)) = false by simp; omega, show (decide (48 ≤ x) && decide (x ≤ 57)) = false by simp; omega]
      simp
    have HL := Lib.hid hl2
    have HX := Lib.hid hx
    have hB : x < 48 ∨ (57 < x ∧ x < 65) ∨ (90 < x ∧ x < 97) ∨ 122 < x := by omega
    clear hl hR hl2 hx hA
    rcases hB with h1 | ⟨h1, h2⟩ | ⟨h1, h2⟩ | h1
    all_goals
      go_enter Tryd.func29, Tryd.ntmps29
      go_wp2
      go_loopw [4] (fun i wr => StR c i w wr) (fun i _ => 9 - (intOf i).toNat)
      case atStart => exact ⟨0, by omega, rfl, rfl, rfl⟩
      case round =>
        obtain ⟨j, hj, rfl, hno, rfl⟩ := hrel
        by_cases hlt : j < 9
        · obtain ⟨y, hy⟩ : ∃ y, (litS[j]'hlt).toNat = y := ⟨_, rfl⟩
          have gy : ∀ h, ((⟨#[46, 95, 58, 47, 43, 45, 44, 61, 35]⟩ : ByteArray)[j]'h).toNat = y := fun h => (lits_at j h).2.trans hy
          have HY := Lib.hid hy
          clear hy
          by_cases hxy : y = x
          · have hR : R = true := by
              rw [HL.out]
              exact has_one c j hlt (UInt8.toNat_inj.1 (by rw [HX.out, HY.out, hxy]))
            clear HY
            subst hxy
            go_wp2
            go_ret
            exact ⟨by rw [hR]; rfl, rfl⟩
          · have hno2 : Hid ((litS.take (j + 1)).contains c = false) := by
              show _ = _
              rw [take_has c j hlt, hno.out, Bool.false_or, beq_eq_false_iff_ne]
              intro e
              apply hxy
              rw [← HY.out, e, HX.out]
            go_wp2
            go_roundw
            case rel => exact ⟨j + 1, by omega, by go_num, hno2, rfl⟩
            case measure => simp [intOf] <;> omega
        · obtain rfl : j = 9 := by omega
          have hR : R = false := by rw [HL.out]; exact has_all c hno.out
          go_wp2
          go_ret
          exact ⟨by rw [hR]; rfl, rfl⟩
end Go.Proofs.YtolnchfgdkeamaaDoor
