import Derived.Test.YtdhajiaepaamgaaDoorB1
import Derived.WalkKit
import Derived.WalkSpells
import Derived.WalkLawsBesides
import Derived.Lib.Hide
import Derived.Below
import Derived.Deep.QuietTactic
import Derived.BigQuiet
import Derived.Deep.RegionHeld3
import Derived.Deep.DrawnRows
import Derived.Deep.DeepFit
import Derived.IntWalk
namespace Go.Proofs.YtdhajiaepaamgaaDoor
open Go.RowKit
set_option linter.unusedVariables false
set_option linter.unusedSimpArgs false
attribute [local go_sem ↓] Go.wp_at_zero Go.wp_at_succ
attribute [local go_sem] rhoF_tmp rhoF_const rhoF_global rhoF_func
theorem tszS (h : 9 < Tryd.prog.types.size) : (Tryd.prog.types[9]'h).size = 1 := rfl
attribute [local go_sem] tszS

def nsL : List ByteArray := [⟨#[110, 111, 114, 109, 97, 108]⟩, ⟨#[109, 117, 108, 116, 105, 112, 108, 121]⟩, ⟨#[115, 99, 114, 101, 101, 110]⟩, ⟨#[111, 118, 101, 114, 108, 97, 121]⟩, ⟨#[100, 97, 114, 107, 101, 110]⟩, ⟨#[108, 105, 103, 104, 116, 101, 110]⟩, ⟨#[100, 105, 102, 102, 101, 114, 101, 110, 99, 101]⟩, ⟨#[101, 120, 99, 108, 117, 115, 105, 111, 110]⟩, ⟨#[104, 97, 114, 100, 108, 105, 103, 104, 116]⟩, ⟨#[104, 117, 101]⟩, ⟨#[115, 97, 116, 117, 114, 97, 116, 105, 111, 110]⟩, ⟨#[99, 111, 108, 111, 114]⟩, ⟨#[108, 117, 109, 105, 110, 111, 115, 105, 116, 121]⟩]
def nsT : List (List UInt8) := [[110, 111, 114, 109, 97, 108], [109, 117, 108, 116, 105, 112, 108, 121], [115, 99, 114, 101, 101, 110], [111, 118, 101, 114, 108, 97, 121], [100, 97, 114, 107, 101, 110], [108, 105, 103, 104, 116, 101, 110], [100, 105, 102, 102, 101, 114, 101, 110, 99, 101], [101, 120, 99, 108, 117, 115, 105, 111, 110], [104, 97, 114, 100, 108, 105, 103, 104, 116], [104, 117, 101], [115, 97, 116, 117, 114, 97, 116, 105, 111, 110], [99, 111, 108, 111, 114], [108, 117, 109, 105, 110, 111, 115, 105, 116, 121]]
def bn : List (List UInt8) → List UInt8 → Int → Int × Bool
  | [], _, _ => (0, false)
  | n :: t, s, j => cond (n == s) (j + 1, true) (bn t s (j + 1))
def nmV (m : Int) : ByteArray := if 1 ≤ m ∧ m ≤ 13 then nsL.getD (m - 1).toNat ⟨#[]⟩ else ⟨#[]⟩
/- the table of names lies as it was laid -/
def Nm (w : World) : Prop := w.cell? ⟨0, 0, none⟩ = some (.string ⟨#[110, 111, 114, 109, 97, 108]⟩) ∧ w.cell? ⟨0, 1, none⟩ = some (.string ⟨#[109, 117, 108, 116, 105, 112, 108, 121]⟩) ∧ w.cell? ⟨0, 2, none⟩ = some (.string ⟨#[115, 99, 114, 101, 101, 110]⟩) ∧ w.cell? ⟨0, 3, none⟩ = some (.string ⟨#[111, 118, 101, 114, 108, 97, 121]⟩) ∧ w.cell? ⟨0, 4, none⟩ = some (.string ⟨#[100, 97, 114, 107, 101, 110]⟩) ∧ w.cell? ⟨0, 5, none⟩ = some (.string ⟨#[108, 105, 103, 104, 116, 101, 110]⟩) ∧ w.cell? ⟨0, 6, none⟩ = some (.string ⟨#[100, 105, 102, 102, 101, 114, 101, 110, 99, 101]⟩) ∧ w.cell? ⟨0, 7, none⟩ = some (.string ⟨#[101, 120, 99, 108, 117, 115, 105, 111, 110]⟩) ∧ w.cell? ⟨0, 8, none⟩ = some (.string ⟨#[104, 97, 114, 100, 108, 105, 103, 104, 116]⟩) ∧ w.cell? ⟨0, 9, none⟩ = some (.string ⟨#[104, 117, 101]⟩) ∧ w.cell? ⟨0, 10, none⟩ = some (.string ⟨#[115, 97, 116, 117, 114, 97, 116, 105, 111, 110]⟩) ∧ w.cell? ⟨0, 11, none⟩ = some (.string ⟨#[99, 111, 108, 111, 114]⟩) ∧ w.cell? ⟨0, 12, none⟩ = some (.string ⟨#[108, 117, 109, 105, 110, 111, 115, 105, 116, 121]⟩)
theorem Nm.below {w w1 : World} (h : Nm w) (hb : Below w.heap.size w w1) : Nm w1 := by
  obtain ⟨kn0, kn1, kn2, kn3, kn4, kn5, kn6, kn7, kn8, kn9, kn10, kn11, kn12⟩ := h
  exact ⟨bcs hb kn0, bcs hb kn1, bcs hb kn2, bcs hb kn3, bcs hb kn4, bcs hb kn5, bcs hb kn6, bcs hb kn7, bcs hb kn8, bcs hb kn9, bcs hb kn10, bcs hb kn11, bcs hb kn12⟩

set_option maxHeartbeats 4000000 in
theorem modeName_any (m : Int) (w : World) (hN : Nm w) : Calls Tryd.prog 16 #[.int .i64 m] w fun e w' => e = .returned (.string (nmV m)) ∧ w = w' := by
  have cv := fun w => validM_any m w
  obtain ⟨kn0, kn1, kn2, kn3, kn4, kn5, kn6, kn7, kn8, kn9, kn10, kn11, kn12⟩ := hN
  by_cases k1 : m = 1
  · subst k1
    rw [show (decide ((1 : Int) ≤ 1) && decide ((1 : Int) ≤ 13)) = true by decide] at cv
    rw [show nmV 1 = ⟨#[110, 111, 114, 109, 97, 108]⟩ by decide]
    go_enter Tryd.func16, Tryd.ntmps16
    go_wp2_with (first | (go_at_call 17; (with_reducible refine (cv _).mono ?_); rintro e w9 ⟨rfl, rfl⟩))
    go_ret
    exact ⟨rfl, rfl⟩
  by_cases k2 : m = 2
  · subst k2
    rw [show (decide ((1 : Int) ≤ 2) && decide ((2 : Int) ≤ 13)) = true by decide] at cv
    rw [show nmV 2 = ⟨#[109, 117, 108, 116, 105, 112, 108, 121]⟩ by decide]
    go_enter Tryd.func16, Tryd.ntmps16
    go_wp2_with (first | (go_at_call 17; (with_reducible refine (cv _).mono ?_); rintro e w9 ⟨rfl, rfl⟩))
    go_ret
    exact ⟨rfl, rfl⟩
  by_cases k3 : m = 3
  · subst k3
    rw [show (decide ((1 : Int) ≤ 3) && decide ((3 : Int) ≤ 13)) = true by decide] at cv
    rw [show nmV 3 = ⟨#[115, 99, 114, 101, 101, 110]⟩ by decide]
    go_enter Tryd.func16, Tryd.ntmps16
    go_wp2_with (first | (go_at_call 17; (with_reducible refine (cv _).mono ?_); rintro e w9 ⟨rfl, rfl⟩))
    go_ret
    exact ⟨rfl, rfl⟩
  by_cases k4 : m = 4
  · subst k4
    rw [show (decide ((1 : Int) ≤ 4) && decide ((4 : Int) ≤ 13)) = true by decide] at cv
    rw [show nmV 4 = ⟨#[111, 118, 101, 114, 108, 97, 121]⟩ by decide]
    go_enter Tryd.func16, Tryd.ntmps16
    go_wp2_with (first | (go_at_call 17; (with_reducible refine (cv _).mono ?_); rintro e w9 ⟨rfl, rfl⟩))
    go_ret
    exact ⟨rfl, rfl⟩
  by_cases k5 : m = 5
  · subst k5
    rw [show (decide ((1 : Int) ≤ 5) && decide ((5 : Int) ≤ 13)) = true by decide] at cv
    rw [show nmV 5 = ⟨#[100, 97, 114, 107, 101, 110]⟩ by decide]
    go_enter Tryd.func16, Tryd.ntmps16
    go_wp2_with (first | (go_at_call 17; (with_reducible refine (cv _).mono ?_); rintro e w9 ⟨rfl, rfl⟩))
    go_ret
    exact ⟨rfl, rfl⟩
  by_cases k6 : m = 6
  · subst k6
    rw [show (decide ((1 : Int) ≤ 6) && decide ((6 : Int) ≤ 13)) = true by decide] at cv
    rw [show nmV 6 = ⟨#[108, 105, 103, 104, 116, 101, 110]⟩ by decide]
    go_enter Tryd.func16, Tryd.ntmps16
    go_wp2_with (first | (go_at_call 17; (with_reducible refine (cv _).mono ?_); rintro e w9 ⟨rfl, rfl⟩))
    go_ret
    exact ⟨rfl, rfl⟩
  by_cases k7 : m = 7
  · subst k7
    rw [show (decide ((1 : Int) ≤ 7) && decide ((7 : Int) ≤ 13)) = true by decide] at cv
    rw [show nmV 7 = ⟨#[100, 105, 102, 102, 101, 114, 101, 110, 99, 101]⟩ by decide]
    go_enter Tryd.func16, Tryd.ntmps16
    go_wp2_with (first | (go_at_call 17; (with_reducible refine (cv _).mono ?_); rintro e w9 ⟨rfl, rfl⟩))
    go_ret
    exact ⟨rfl, rfl⟩
  by_cases k8 : m = 8
  · subst k8
    rw [show (decide ((1 : Int) ≤ 8) && decide ((8 : Int) ≤ 13)) = true by decide] at cv
    rw [show nmV 8 = ⟨#[101, 120, 99, 108, 117, 115, 105, 111, 110]⟩ by decide]
    go_enter Tryd.func16, Tryd.ntmps16
    go_wp2_with (first | (go_at_call 17; (with_reducible refine (cv _).mono ?_); rintro e w9 ⟨rfl, rfl⟩))
    go_ret
    exact ⟨rfl, rfl⟩
  by_cases k9 : m = 9
  · subst k9
    rw [show (decide ((1 : Int) ≤ 9) && decide ((9 : Int) ≤ 13)) = true by decide] at cv
    rw [show nmV 9 = ⟨#[104, 97, 114, 100, 108, 105, 103, 104, 116]⟩ by decide]
    go_enter Tryd.func16, Tryd.ntmps16
    go_wp2_with (first | (go_at_call 17; (with_reducible refine (cv _).mono ?_); rintro e w9 ⟨rfl, rfl⟩))
    go_ret
    exact ⟨rfl, rfl⟩
  by_cases k10 : m = 10
  · subst k10
    rw [show (decide ((1 : Int) ≤ 10) && decide ((10 : Int) ≤ 13)) = true by decide] at cv
    rw [show nmV 10 = ⟨#[104, 117, 101]⟩ by decide]
    go_enter Tryd.func16, Tryd.ntmps16
    go_wp2_with (first | (go_at_call 17; (with_reducible refine (cv _).mono ?_); rintro e w9 ⟨rfl, rfl⟩))
    go_ret
    exact ⟨rfl, rfl⟩
  by_cases k11 : m = 11
  · subst k11
    rw [show (decide ((1 : Int) ≤ 11) && decide ((11 : Int) ≤ 13)) = true by decide] at cv
    rw [show nmV 11 = ⟨#[115, 97, 116, 117, 114, 97, 116, 105, 111, 110]⟩ by decide]
    go_enter Tryd.func16, Tryd.ntmps16
    go_wp2_with (first | (go_at_call 17; (with_reducible refine (cv _).mono ?_); rintro e w9 ⟨rfl, rfl⟩))
    go_ret
    exact ⟨rfl, rfl⟩
  by_cases k12 : m = 12
  · subst k12
    rw [show (decide ((1 : Int) ≤ 12) && decide ((12 : Int) ≤ 13)) = true by decide] at cv
    rw [show nmV 12 = ⟨#[99, 111, 108, 111, 114]⟩ by decide]
    go_enter Tryd.func16, Tryd.ntmps16
    go_wp2_with (first | (go_at_call 17; (with_reducible refine (cv _).mono ?_); rintro e w9 ⟨rfl, rfl⟩))
    go_ret
    exact ⟨rfl, rfl⟩
  by_cases k13 : m = 13
  · subst k13
    rw [show (decide ((1 : Int) ≤ 13) && decide ((13 : Int) ≤ 13)) = true by decide] at cv
    rw [show nmV 13 = ⟨#[108, 117, 109, 105, 110, 111, 115, 105, 116, 121]⟩ by decide]
    go_enter Tryd.func16, Tryd.ntmps16
    go_wp2_with (first | (go_at_call 17; (with_reducible refine (cv _).mono ?_); rintro e w9 ⟨rfl, rfl⟩))
    go_ret
    exact ⟨rfl, rfl⟩
  have hv : (decide ((1 : Int) ≤ m) && decide (m ≤ 13)) = false := by simp; omega
  rw [hv] at cv
  rw [show nmV m = ⟨#[]⟩ by unfold nmV; rw [if_neg (by omega)]]
  clear hv k1 k2 k3 k4 k5 k6 k7 k8 k9 k10 k11 k12 k13
  go_enter Tryd.func16, Tryd.ntmps16
  go_wp2_with (first | (go_at_call 17; (with_reducible refine (cv _).mono ?_); rintro e w9 ⟨rfl, rfl⟩))
  go_ret
  exact ⟨rfl, rfl⟩

set_option maxHeartbeats 2000000 in
theorem rnames_any (w : World) : Calls Tryd.prog 28 #[] w fun e w' => e = .returned (.slice (some ⟨w.heap.size, 0, none⟩) 13 13) ∧ (w'.cell? ⟨w.heap.size, 0, none⟩ = some (.string ⟨#[110, 111, 114, 109, 97, 108]⟩) ∧ w'.cell? ⟨w.heap.size, 1, none⟩ = some (.string ⟨#[109, 117, 108, 116, 105, 112, 108, 121]⟩) ∧ w'.cell? ⟨w.heap.size, 2, none⟩ = some (.string ⟨#[115, 99, 114, 101, 101, 110]⟩) ∧ w'.cell? ⟨w.heap.size, 3, none⟩ = some (.string ⟨#[111, 118, 101, 114, 108, 97, 121]⟩) ∧ w'.cell? ⟨w.heap.size, 4, none⟩ = some (.string ⟨#[100, 97, 114, 107, 101, 110]⟩) ∧ w'.cell? ⟨w.heap.size, 5, none⟩ = some (.string ⟨#[108, 105, 103, 104, 116, 101, 110]⟩) ∧ w'.cell? ⟨w.heap.size, 6, none⟩ = some (.string ⟨#[100, 105, 102, 102, 101, 114, 101, 110, 99, 101]⟩) ∧ w'.cell? ⟨w.heap.size, 7, none⟩ = some (.string ⟨#[101, 120, 99, 108, 117, 115, 105, 111, 110]⟩) ∧ w'.cell? ⟨w.heap.size, 8, none⟩ = some (.string ⟨#[104, 97, 114, 100, 108, 105, 103, 104, 116]⟩) ∧ w'.cell? ⟨w.heap.size, 9, none⟩ = some (.string ⟨#[104, 117, 101]⟩) ∧ w'.cell? ⟨w.heap.size, 10, none⟩ = some (.string ⟨#[115, 97, 116, 117, 114, 97, 116, 105, 111, 110]⟩) ∧ w'.cell? ⟨w.heap.size, 11, none⟩ = some (.string ⟨#[99, 111, 108, 111, 114]⟩) ∧ w'.cell? ⟨w.heap.size, 12, none⟩ = some (.string ⟨#[108, 117, 109, 105, 110, 111, 115, 105, 116, 121]⟩)) ∧ Below w.heap.size w w' := by
  go_enter Tryd.func28, Tryd.ntmps28
  go_wp2
  go_ret
  refine ⟨rfl, ?_, by repeat (first | with_reducible exact Below.refl _ _ | fail | with_reducible apply below_drewN | with_reducible apply Below.drew | (with_reducible refine Below.alloc ?_ (by first | (simp; done) | (simp; omega) | omega) _) | (with_reducible refine Below.setCell ?_ (by first | (simp; done) | (simp; omega) | omega) _))⟩
  have hp := heap_alloc_new w (.cells #[.string ⟨#[110, 111, 114, 109, 97, 108]⟩, .string ⟨#[109, 117, 108, 116, 105, 112, 108, 121]⟩, .string ⟨#[115, 99, 114, 101, 101, 110]⟩, .string ⟨#[111, 118, 101, 114, 108, 97, 121]⟩, .string ⟨#[100, 97, 114, 107, 101, 110]⟩, .string ⟨#[108, 105, 103, 104, 116, 101, 110]⟩, .string ⟨#[100, 105, 102, 102, 101, 114, 101, 110, 99, 101]⟩, .string ⟨#[101, 120, 99, 108, 117, 115, 105, 111, 110]⟩, .string ⟨#[104, 97, 114, 100, 108, 105, 103, 104, 116]⟩, .string ⟨#[104, 117, 101]⟩, .string ⟨#[115, 97, 116, 117, 114, 97, 116, 105, 111, 110]⟩, .string ⟨#[99, 111, 108, 111, 114]⟩, .string ⟨#[108, 117, 109, 105, 110, 111, 115, 105, 116, 121]⟩] 9)
  exact ⟨cob hp 0 rfl, cob hp 1 rfl, cob hp 2 rfl, cob hp 3 rfl, cob hp 4 rfl, cob hp 5 rfl, cob hp 6 rfl, cob hp 7 rfl, cob hp 8 rfl, cob hp 9 rfl, cob hp 10 rfl, cob hp 11 rfl, cob hp 12 rfl⟩

set_option maxHeartbeats 4000000 in
theorem rmodeName_any (m : Int) (w : World) : Calls Tryd.prog 19 #[.int .i64 m] w fun e w' => e = .returned (.string (nmV m)) ∧ Below w.heap.size w w' := by
  have cv := fun w => rvalidM_any m w
  by_cases k1 : m = 1
  · subst k1
    rw [show (decide ((1 : Int) ≤ 1) && decide ((1 : Int) ≤ 13)) = true by decide] at cv
    rw [show nmV 1 = ⟨#[110, 111, 114, 109, 97, 108]⟩ by decide]
    go_enter Tryd.func19, Tryd.ntmps19
    go_wp2_with (first | (go_at_call 18; (with_reducible refine (cv _).mono ?_); rintro e w9 ⟨rfl, rfl⟩) | (go_at_call 28; (with_reducible refine (rnames_any _).mono ?_); rintro e w1 ⟨rfl, ⟨kn0, kn1, kn2, kn3, kn4, kn5, kn6, kn7, kn8, kn9, kn10, kn11, kn12⟩, hb⟩))
    go_ret
    exact ⟨rfl, hb⟩
  by_cases k2 : m = 2
  · subst k2
    rw [show (decide ((1 : Int) ≤ 2) && decide ((2 : Int) ≤ 13)) = true by decide] at cv
    rw [show nmV 2 = ⟨#[109, 117, 108, 116, 105, 112, 108, 121]⟩ by decide]
    go_enter Tryd.func19, Tryd.ntmps19
    go_wp2_with (first | (go_at_call 18; (with_reducible refine (cv _).mono ?_); rintro e w9 ⟨rfl, rfl⟩) | (go_at_call 28; (with_reducible refine (rnames_any _).mono ?_); rintro e w1 ⟨rfl, ⟨kn0, kn1, kn2, kn3, kn4, kn5, kn6, kn7, kn8, kn9, kn10, kn11, kn12⟩, hb⟩))
    go_ret
    exact ⟨rfl, hb⟩
  by_cases k3 : m = 3
  · subst k3
    rw [show (decide ((1 : Int) ≤ 3) && decide ((3 : Int) ≤ 13)) = true by decide] at cv
    rw [show nmV 3 = ⟨#[115, 99, 114, 101, 101, 110]⟩ by decide]
    go_enter Tryd.func19, Tryd.ntmps19
    go_wp2_with (first | (go_at_call 18; (with_reducible refine (cv _).mono ?_); rintro e w9 ⟨rfl, rfl⟩) | (go_at_call 28; (with_reducible refine (rnames_any _).mono ?_); rintro e w1 ⟨rfl, ⟨kn0, kn1, kn2, kn3, kn4, kn5, kn6, kn7, kn8, kn9, kn10, kn11, kn12⟩, hb⟩))
    go_ret
    exact ⟨rfl, hb⟩
  by_cases k4 : m = 4
  · subst k4
    rw [show (decide ((1 : Int) ≤ 4) && decide ((4 : Int) ≤ 13)) = true by decide] at cv
    rw [show nmV 4 = ⟨#[111, 118, 101, 114, 108, 97, 121]⟩ by decide]
    go_enter Tryd.func19, Tryd.ntmps19
    go_wp2_with (first | (go_at_call 18; (with_reducible refine (cv _).mono ?_); rintro e w9 ⟨rfl, rfl⟩) | (go_at_call 28; (with_reducible refine (rnames_any _).mono ?_); rintro e w1 ⟨rfl, ⟨kn0, kn1, kn2, kn3, kn4, kn5, kn6, kn7, kn8, kn9, kn10, kn11, kn12⟩, hb⟩))
    go_ret
    exact ⟨rfl, hb⟩
  by_cases k5 : m = 5
  · subst k5
    rw [show (decide ((1 : Int) ≤ 5) && decide ((5 : Int) ≤ 13)) = true by decide] at cv
    rw [show nmV 5 = ⟨#[100, 97, 114, 107, 101, 110]⟩ by decide]
    go_enter Tryd.func19, Tryd.ntmps19
    go_wp2_with (first | (go_at_call 18; (with_reducible refine (cv _).mono ?_); rintro e w9 ⟨rfl, rfl⟩) | (go_at_call 28; (with_reducible refine (rnames_any _).mono ?_); rintro e w1 ⟨rfl, ⟨kn0, kn1, kn2, kn3, kn4, kn5, kn6, kn7, kn8, kn9, kn10, kn11, kn12⟩, hb⟩))
    go_ret
    exact ⟨rfl, hb⟩
  by_cases k6 : m = 6
  · subst k6
    rw [show (decide ((1 : Int) ≤ 6) && decide ((6 : Int) ≤ 13)) = true by decide] at cv
    rw [show nmV 6 = ⟨#[108, 105, 103, 104, 116, 101, 110]⟩ by decide]
    go_enter Tryd.func19, Tryd.ntmps19
    go_wp2_with (first | (go_at_call 18; (with_reducible refine (cv _).mono ?_); rintro e w9 ⟨rfl, rfl⟩) | (go_at_call 28; (with_reducible refine (rnames_any _).mono ?_); rintro e w1 ⟨rfl, ⟨kn0, kn1, kn2, kn3, kn4, kn5, kn6, kn7, kn8, kn9, kn10, kn11, kn12⟩, hb⟩))
    go_ret
    exact ⟨rfl, hb⟩
  by_cases k7 : m = 7
  · subst k7
    rw [show (decide ((1 : Int) ≤ 7) && decide ((7 : Int) ≤ 13)) = true by decide] at cv
    rw [show nmV 7 = ⟨#[100, 105, 102, 102, 101, 114, 101, 110, 99, 101]⟩ by decide]
    go_enter Tryd.func19, Tryd.ntmps19
    go_wp2_with (first | (go_at_call 18; (with_reducible refine (cv _).mono ?_); rintro e w9 ⟨rfl, rfl⟩) | (go_at_call 28; (with_reducible refine (rnames_any _).mono ?_); rintro e w1 ⟨rfl, ⟨kn0, kn1, kn2, kn3, kn4, kn5, kn6, kn7, kn8, kn9, kn10, kn11, kn12⟩, hb⟩))
    go_ret
    exact ⟨rfl, hb⟩
  by_cases k8 : m = 8
  · subst k8
    rw [show (decide ((1 : Int) ≤ 8) && decide ((8 : Int) ≤ 13)) = true by decide] at cv
    rw [show nmV 8 = ⟨#[101, 120, 99, 108, 117, 115, 105, 111, 110]⟩ by decide]
    go_enter Tryd.func19, Tryd.ntmps19
    go_wp2_with (first | (go_at_call 18; (with_reducible refine (cv _).mono ?_); rintro e w9 ⟨rfl, rfl⟩) | (go_at_call 28; (with_reducible refine (rnames_any _).mono ?_); rintro e w1 ⟨rfl, ⟨kn0, kn1, kn2, kn3, kn4, kn5, kn6, kn7, kn8, kn9, kn10, kn11, kn12⟩, hb⟩))
    go_ret
    exact ⟨rfl, hb⟩
  by_cases k9 : m = 9
  · subst k9
    rw [show (decide ((1 : Int) ≤ 9) && decide ((9 : Int) ≤ 13)) = true by decide] at cv
    rw [show nmV 9 = ⟨#[104, 97, 114, 100, 108, 105, 103, 104, 116]⟩ by decide]
    go_enter Tryd.func19, Tryd.ntmps19
    go_wp2_with (first | (go_at_call 18; (with_reducible refine (cv _).mono ?_); rintro e w9 ⟨rfl, rfl⟩) | (go_at_call 28; (with_reducible refine (rnames_any _).mono ?_); rintro e w1 ⟨rfl, ⟨kn0, kn1, kn2, kn3, kn4, kn5, kn6, kn7, kn8, kn9, kn10, kn11, kn12⟩, hb⟩))
    go_ret
    exact ⟨rfl, hb⟩
  by_cases k10 : m = 10
  · subst k10
    rw [show (decide ((1 : Int) ≤ 10) && decide ((10 : Int) ≤ 13)) = true by decide] at cv
    rw [show nmV 10 = ⟨#[104, 117, 101]⟩ by decide]
    go_enter Tryd.func19, Tryd.ntmps19
    go_wp2_with (first | (go_at_call 18; (with_reducible refine (cv _).mono ?_); rintro e w9 ⟨rfl, rfl⟩) | (go_at_call 28; (with_reducible refine (rnames_any _).mono ?_); rintro e w1 ⟨rfl, ⟨kn0, kn1, kn2, kn3, kn4, kn5, kn6, kn7, kn8, kn9, kn10, kn11, kn12⟩, hb⟩))
    go_ret
    exact ⟨rfl, hb⟩
  by_cases k11 : m = 11
  · subst k11
    rw [show (decide ((1 : Int) ≤ 11) && decide ((11 : Int) ≤ 13)) = true by decide] at cv
    rw [show nmV 11 = ⟨#[115, 97, 116, 117, 114, 97, 116, 105, 111, 110]⟩ by decide]
    go_enter Tryd.func19, Tryd.ntmps19
    go_wp2_with (first | (go_at_call 18; (with_reducible refine (cv _).mono ?_); rintro e w9 ⟨rfl, rfl⟩) | (go_at_call 28; (with_reducible refine (rnames_any _).mono ?_); rintro e w1 ⟨rfl, ⟨kn0, kn1, kn2, kn3, kn4, kn5, kn6, kn7, kn8, kn9, kn10, kn11, kn12⟩, hb⟩))
    go_ret
    exact ⟨rfl, hb⟩
  by_cases k12 : m = 12
  · subst k12
    rw [show (decide ((1 : Int) ≤ 12) && decide ((12 : Int) ≤ 13)) = true by decide] at cv
    rw [show nmV 12 = ⟨#[99, 111, 108, 111, 114]⟩ by decide]
    go_enter Tryd.func19, Tryd.ntmps19
    go_wp2_with (first | (go_at_call 18; (with_reducible refine (cv _).mono ?_); rintro e w9 ⟨rfl, rfl⟩) | (go_at_call 28; (with_reducible refine (rnames_any _).mono ?_); rintro e w1 ⟨rfl, ⟨kn0, kn1, kn2, kn3, kn4, kn5, kn6, kn7, kn8, kn9, kn10, kn11, kn12⟩, hb⟩))
    go_ret
    exact ⟨rfl, hb⟩
  by_cases k13 : m = 13
  · subst k13
    rw [show (decide ((1 : Int) ≤ 13) && decide ((13 : Int) ≤ 13)) = true by decide] at cv
    rw [show nmV 13 = ⟨#[108, 117, 109, 105, 110, 111, 115, 105, 116, 121]⟩ by decide]
    go_enter Tryd.func19, Tryd.ntmps19
    go_wp2_with (first | (go_at_call 18; (with_reducible refine (cv _).mono ?_); rintro e w9 ⟨rfl, rfl⟩) | (go_at_call 28; (with_reducible refine (rnames_any _).mono ?_); rintro e w1 ⟨rfl, ⟨kn0, kn1, kn2, kn3, kn4, kn5, kn6, kn7, kn8, kn9, kn10, kn11, kn12⟩, hb⟩))
    go_ret
    exact ⟨rfl, hb⟩
  have hv : (decide ((1 : Int) ≤ m) && decide (m ≤ 13)) = false := by simp; omega
  rw [hv] at cv
  rw [show nmV m = ⟨#[]⟩ by unfold nmV; rw [if_neg (by omega)]]
  clear hv k1 k2 k3 k4 k5 k6 k7 k8 k9 k10 k11 k12 k13
  go_enter Tryd.func19, Tryd.ntmps19
  go_wp2_with (first | (go_at_call 18; (with_reducible refine (cv _).mono ?_); rintro e w9 ⟨rfl, rfl⟩) | (go_at_call 28; (with_reducible refine (rnames_any _).mono ?_); rintro e w1 ⟨rfl, ⟨kn0, kn1, kn2, kn3, kn4, kn5, kn6, kn7, kn8, kn9, kn10, kn11, kn12⟩, hb⟩))
  go_ret
  exact ⟨rfl, Below.refl _ _⟩
theorem idx_0 (w : World) : (Instr.index 41 (.agg #[.string ⟨#[110, 111, 114, 109, 97, 108]⟩, .string ⟨#[109, 117, 108, 116, 105, 112, 108, 121]⟩, .string ⟨#[115, 99, 114, 101, 101, 110]⟩, .string ⟨#[111, 118, 101, 114, 108, 97, 121]⟩, .string ⟨#[100, 97, 114, 107, 101, 110]⟩, .string ⟨#[108, 105, 103, 104, 116, 101, 110]⟩, .string ⟨#[100, 105, 102, 102, 101, 114, 101, 110, 99, 101]⟩, .string ⟨#[101, 120, 99, 108, 117, 115, 105, 111, 110]⟩, .string ⟨#[104, 97, 114, 100, 108, 105, 103, 104, 116]⟩, .string ⟨#[104, 117, 101]⟩, .string ⟨#[115, 97, 116, 117, 114, 97, 116, 105, 111, 110]⟩, .string ⟨#[99, 111, 108, 111, 114]⟩, .string ⟨#[108, 117, 109, 105, 110, 111, 115, 105, 116, 121]⟩]) (.int .i64 0)).run Tryd.prog w = .ok (.string ⟨#[110, 111, 114, 109, 97, 108]⟩) w := by kernel_rfl
theorem idx_1 (w : World) : (Instr.index 41 (.agg #[.string ⟨#[110, 111, 114, 109, 97, 108]⟩, .string ⟨#[109, 117, 108, 116, 105, 112, 108, 121]⟩, .string ⟨#[115, 99, 114, 101, 101, 110]⟩, .string ⟨#[111, 118, 101, 114, 108, 97, 121]⟩, .string ⟨#[100, 97, 114, 107, 101, 110]⟩, .string ⟨#[108, 105, 103, 104, 116, 101, 110]⟩, .string ⟨#[100, 105, 102, 102, 101, 114, 101, 110, 99, 101]⟩, .string ⟨#[101, 120, 99, 108, 117, 115, 105, 111, 110]⟩, .string ⟨#[104, 97, 114, 100, 108, 105, 103, 104, 116]⟩, .string ⟨#[104, 117, 101]⟩, .string ⟨#[115, 97, 116, 117, 114, 97, 116, 105, 111, 110]⟩, .string ⟨#[99, 111, 108, 111, 114]⟩, .string ⟨#[108, 117, 109, 105, 110, 111, 115, 105, 116, 121]⟩]) (.int .i64 1)).run Tryd.prog w = .ok (.string ⟨#[109, 117, 108, 116, 105, 112, 108, 121]⟩) w := by kernel_rfl
theorem idx_2 (w : World) : (Instr.index 41 (.agg #[.string ⟨#[110, 111, 114, 109, 97, 108]⟩, .string ⟨#[109, 117, 108, 116, 105, 112, 108, 121]⟩, .string ⟨#[115, 99, 114, 101, 101, 110]⟩, .string ⟨#[111, 118, 101, 114, 108, 97, 121]⟩, .string ⟨#[100, 97, 114, 107, 101, 110]⟩, .string ⟨#[108, 105, 103, 104, 116, 101, 110]⟩, .string ⟨#[100, 105, 102, 102, 101, 114, 101, 110, 99, 101]⟩, .string ⟨#[101, 120, 99, 108, 117, 115, 105, 111, 110]⟩, .string ⟨#[104, 97, 114, 100, 108, 105, 103, 104, 116]⟩, .string ⟨#[104, 117, 101]⟩, .string ⟨#[115, 97, 116, 117, 114, 97, 116, 105, 111, 110]⟩, .string ⟨#[99, 111, 108, 111, 114]⟩, .string ⟨#[108, 117, 109, 105, 110, 111, 115, 105, 116, 121]⟩]) (.int .i64 2)).run Tryd.prog w = .ok (.string ⟨#[115, 99, 114, 101, 101, 110]⟩) w := by kernel_rfl
theorem idx_3 (w : World) : (Instr.index 41 (.agg #[.string ⟨#[110, 111, 114, 109, 97, 108]⟩, .string ⟨#[109, 117, 108, 116, 105, 112, 108, 121]⟩, .string ⟨#[115, 99, 114, 101, 101, 110]⟩, .string ⟨#[111, 118, 101, 114, 108, 97, 121]⟩, .string ⟨#[100, 97, 114, 107, 101, 110]⟩, .string ⟨#[108, 105, 103, 104, 116, 101, 110]⟩, .string ⟨#[100, 105, 102, 102, 101, 114, 101, 110, 99, 101]⟩, .string ⟨#[101, 120, 99, 108, 117, 115, 105, 111, 110]⟩, .string ⟨#[104, 97, 114, 100, 108, 105, 103, 104, 116]⟩, .string ⟨#[104, 117, 101]⟩, .string ⟨#[115, 97, 116, 117, 114, 97, 116, 105, 111, 110]⟩, .string ⟨#[99, 111, 108, 111, 114]⟩, .string ⟨#[108, 117, 109, 105, 110, 111, 115, 105, 116, 121]⟩]) (.int .i64 3)).run Tryd.prog w = .ok (.string ⟨#[111, 118, 101, 114, 108, 97, 121]⟩) w := by kernel_rfl
theorem idx_4 (w : World) : (Instr.index 41 (.agg #[.string ⟨#[110, 111, 114, 109, 97, 108]⟩, .string ⟨#[109, 117, 108, 116, 105, 112, 108, 121]⟩, .string ⟨#[115, 99, 114, 101, 101, 110]⟩, .string ⟨#[111, 118, 101, 114, 108, 97, 121]⟩, .string ⟨#[100, 97, 114, 107, 101, 110]⟩, .string ⟨#[108, 105, 103, 104, 116, 101, 110]⟩, .string ⟨#[100, 105, 102, 102, 101, 114, 101, 110, 99, 101]⟩, .string ⟨#[101, 120, 99, 108, 117, 115, 105, 111, 110]⟩, .string ⟨#[104, 97, 114, 100, 108, 105, 103, 104, 116]⟩, .string ⟨#[104, 117, 101]⟩, .string ⟨#[115, 97, 116, 117, 114, 97, 116, 105, 111, 110]⟩, .string ⟨#[99, 111, 108, 111, 114]⟩, .string ⟨#[108, 117, 109, 105, 110, 111, 115, 105, 116, 121]⟩]) (.int .i64 4)).run Tryd.prog w = .ok (.string ⟨#[100, 97, 114, 107, 101, 110]⟩) w := by kernel_rfl
theorem idx_5 (w : World) : (Instr.index 41 (.agg #[.string ⟨#[110, 111, 114, 109, 97, 108]⟩, .string ⟨#[109, 117, 108, 116, 105, 112, 108, 121]⟩, .string ⟨#[115, 99, 114, 101, 101, 110]⟩, .string ⟨#[111, 118, 101, 114, 108, 97, 121]⟩, .string ⟨#[100, 97, 114, 107, 101, 110]⟩, .string ⟨#[108, 105, 103, 104, 116, 101, 110]⟩, .string ⟨#[100, 105, 102, 102, 101, 114, 101, 110, 99, 101]⟩, .string ⟨#[101, 120, 99, 108, 117, 115, 105, 111, 110]⟩, .string ⟨#[104, 97, 114, 100, 108, 105, 103, 104, 116]⟩, .string ⟨#[104, 117, 101]⟩, .string ⟨#[115, 97, 116, 117, 114, 97, 116, 105, 111, 110]⟩, .string ⟨#[99, 111, 108, 111, 114]⟩, .string ⟨#[108, 117, 109, 105, 110, 111, 115, 105, 116, 121]⟩]) (.int .i64 5)).run Tryd.prog w = .ok (.string ⟨#[108, 105, 103, 104, 116, 101, 110]⟩) w := by kernel_rfl
theorem idx_6 (w : World) : (Instr.index 41 (.agg #[.string ⟨#[110, 111, 114, 109, 97, 108]⟩, .string ⟨#[109, 117, 108, 116, 105, 112, 108, 121]⟩, .string ⟨#[115, 99, 114, 101, 101, 110]⟩, .string ⟨#[111, 118, 101, 114, 108, 97, 121]⟩, .string ⟨#[100, 97, 114, 107, 101, 110]⟩, .string ⟨#[108, 105, 103, 104, 116, 101, 110]⟩, .string ⟨#[100, 105, 102, 102, 101, 114, 101, 110, 99, 101]⟩, .string ⟨#[101, 120, 99, 108, 117, 115, 105, 111, 110]⟩, .string ⟨#[104, 97, 114, 100, 108, 105, 103, 104, 116]⟩, .string ⟨#[104, 117, 101]⟩, .string ⟨#[115, 97, 116, 117, 114, 97, 116, 105, 111, 110]⟩, .string ⟨#[99, 111, 108, 111, 114]⟩, .string ⟨#[108, 117, 109, 105, 110, 111, 115, 105, 116, 121]⟩]) (.int .i64 6)).run Tryd.prog w = .ok (.string ⟨#[100, 105, 102, 102, 101, 114, 101, 110, 99, 101]⟩) w := by kernel_rfl
theorem idx_7 (w : World) : (Instr.index 41 (.agg #[.string ⟨#[110, 111, 114, 109, 97, 108]⟩, .string ⟨#[109, 117, 108, 116, 105, 112, 108, 121]⟩, .string ⟨#[115, 99, 114, 101, 101, 110]⟩, .string ⟨#[111, 118, 101, 114, 108, 97, 121]⟩, .string ⟨#[100, 97, 114, 107, 101, 110]⟩, .string ⟨#[108, 105, 103, 104, 116, 101, 110]⟩, .string ⟨#[100, 105, 102, 102, 101, 114, 101, 110, 99, 101]⟩, .string ⟨#[101, 120, 99, 108, 117, 115, 105, 111, 110]⟩, .string ⟨#[104, 97, 114, 100, 108, 105, 103, 104, 116]⟩, .string ⟨#[104, 117, 101]⟩, .string ⟨#[115, 97, 116, 117, 114, 97, 116, 105, 111, 110]⟩, .string ⟨#[99, 111, 108, 111, 114]⟩, .string ⟨#[108, 117, 109, 105, 110, 111, 115, 105, 116, 121]⟩]) (.int .i64 7)).run Tryd.prog w = .ok (.string ⟨#[101, 120, 99, 108, 117, 115, 105, 111, 110]⟩) w := by kernel_rfl
theorem idx_8 (w : World) : (Instr.index 41 (.agg #[.string ⟨#[110, 111, 114, 109, 97, 108]⟩, .string ⟨#[109, 117, 108, 116, 105, 112, 108, 121]⟩, .string ⟨#[115, 99, 114, 101, 101, 110]⟩, .string ⟨#[111, 118, 101, 114, 108, 97, 121]⟩, .string ⟨#[100, 97, 114, 107, 101, 110]⟩, .string ⟨#[108, 105, 103, 104, 116, 101, 110]⟩, .string ⟨#[100, 105, 102, 102, 101, 114, 101, 110, 99, 101]⟩, .string ⟨#[101, 120, 99, 108, 117, 115, 105, 111, 110]⟩, .string ⟨#[104, 97, 114, 100, 108, 105, 103, 104, 116]⟩, .string ⟨#[104, 117, 101]⟩, .string ⟨#[115, 97, 116, 117, 114, 97, 116, 105, 111, 110]⟩, .string ⟨#[99, 111, 108, 111, 114]⟩, .string ⟨#[108, 117, 109, 105, 110, 111, 115, 105, 116, 121]⟩]) (.int .i64 8)).run Tryd.prog w = .ok (.string ⟨#[104, 97, 114, 100, 108, 105, 103, 104, 116]⟩) w := by kernel_rfl
theorem idx_9 (w : World) : (Instr.index 41 (.agg #[.string ⟨#[110, 111, 114, 109, 97, 108]⟩, .string ⟨#[109, 117, 108, 116, 105, 112, 108, 121]⟩, .string ⟨#[115, 99, 114, 101, 101, 110]⟩, .string ⟨#[111, 118, 101, 114, 108, 97, 121]⟩, .string ⟨#[100, 97, 114, 107, 101, 110]⟩, .string ⟨#[108, 105, 103, 104, 116, 101, 110]⟩, .string ⟨#[100, 105, 102, 102, 101, 114, 101, 110, 99, 101]⟩, .string ⟨#[101, 120, 99, 108, 117, 115, 105, 111, 110]⟩, .string ⟨#[104, 97, 114, 100, 108, 105, 103, 104, 116]⟩, .string ⟨#[104, 117, 101]⟩, .string ⟨#[115, 97, 116, 117, 114, 97, 116, 105, 111, 110]⟩, .string ⟨#[99, 111, 108, 111, 114]⟩, .string ⟨#[108, 117, 109, 105, 110, 111, 115, 105, 116, 121]⟩]) (.int .i64 9)).run Tryd.prog w = .ok (.string ⟨#[104, 117, 101]⟩) w := by kernel_rfl
theorem idx_10 (w : World) : (Instr.index 41 (.agg #[.string ⟨#[110, 111, 114, 109, 97, 108]⟩, .string ⟨#[109, 117, 108, 116, 105, 112, 108, 121]⟩, .string ⟨#[115, 99, 114, 101, 101, 110]⟩, .string ⟨#[111, 118, 101, 114, 108, 97, 121]⟩, .string ⟨#[100, 97, 114, 107, 101, 110]⟩, .string ⟨#[108, 105, 103, 104, 116, 101, 110]⟩, .string ⟨#[100, 105, 102, 102, 101, 114, 101, 110, 99, 101]⟩, .string ⟨#[101, 120, 99, 108, 117, 115, 105, 111, 110]⟩, .string ⟨#[104, 97, 114, 100, 108, 105, 103, 104, 116]⟩, .string ⟨#[104, 117, 101]⟩, .string ⟨#[115, 97, 116, 117, 114, 97, 116, 105, 111, 110]⟩, .string ⟨#[99, 111, 108, 111, 114]⟩, .string ⟨#[108, 117, 109, 105, 110, 111, 115, 105, 116, 121]⟩]) (.int .i64 10)).run Tryd.prog w = .ok (.string ⟨#[115, 97, 116, 117, 114, 97, 116, 105, 111, 110]⟩) w := by kernel_rfl
theorem idx_11 (w : World) : (Instr.index 41 (.agg #[.string ⟨#[110, 111, 114, 109, 97, 108]⟩, .string ⟨#[109, 117, 108, 116, 105, 112, 108, 121]⟩, .string ⟨#[115, 99, 114, 101, 101, 110]⟩, .string ⟨#[111, 118, 101, 114, 108, 97, 121]⟩, .string ⟨#[100, 97, 114, 107, 101, 110]⟩, .string ⟨#[108, 105, 103, 104, 116, 101, 110]⟩, .string ⟨#[100, 105, 102, 102, 101, 114, 101, 110, 99, 101]⟩, .string ⟨#[101, 120, 99, 108, 117, 115, 105, 111, 110]⟩, .string ⟨#[104, 97, 114, 100, 108, 105, 103, 104, 116]⟩, .string ⟨#[104, 117, 101]⟩, .string ⟨#[115, 97, 116, 117, 114, 97, 116, 105, 111, 110]⟩, .string ⟨#[99, 111, 108, 111, 114]⟩, .string ⟨#[108, 117, 109, 105, 110, 111, 115, 105, 116, 121]⟩]) (.int .i64 11)).run Tryd.prog w = .ok (.string ⟨#[99, 111, 108, 111, 114]⟩) w := by kernel_rfl
theorem idx_12 (w : World) : (Instr.index 41 (.agg #[.string ⟨#[110, 111, 114, 109, 97, 108]⟩, .string ⟨#[109, 117, 108, 116, 105, 112, 108, 121]⟩, .string ⟨#[115, 99, 114, 101, 101, 110]⟩, .string ⟨#[111, 118, 101, 114, 108, 97, 121]⟩, .string ⟨#[100, 97, 114, 107, 101, 110]⟩, .string ⟨#[108, 105, 103, 104, 116, 101, 110]⟩, .string ⟨#[100, 105, 102, 102, 101, 114, 101, 110, 99, 101]⟩, .string ⟨#[101, 120, 99, 108, 117, 115, 105, 111, 110]⟩, .string ⟨#[104, 97, 114, 100, 108, 105, 103, 104, 116]⟩, .string ⟨#[104, 117, 101]⟩, .string ⟨#[115, 97, 116, 117, 114, 97, 116, 105, 111, 110]⟩, .string ⟨#[99, 111, 108, 111, 114]⟩, .string ⟨#[108, 117, 109, 105, 110, 111, 115, 105, 116, 121]⟩]) (.int .i64 12)).run Tryd.prog w = .ok (.string ⟨#[108, 117, 109, 105, 110, 111, 115, 105, 116, 121]⟩) w := by kernel_rfl

set_option maxRecDepth 100000 in
set_option maxHeartbeats 8000000 in
theorem byName_any (s : ByteArray) (w : World) (hN : Nm w) : Calls Tryd.prog 14 #[.string s] w fun e w' => e = .returned (.tuple #[.int .i64 (bn nsT s.toList 0).1, .bool (bn nsT s.toList 0).2]) ∧ w = w' := by
  obtain ⟨kn0, kn1, kn2, kn3, kn4, kn5, kn6, kn7, kn8, kn9, kn10, kn11, kn12⟩ := hN
  obtain ⟨Rr, hRr⟩ : ∃ x, bn nsT s.toList 0 = x := ⟨_, rfl⟩
  rw [hRr]
  go_enter Tryd.func14, Tryd.ntmps14
  go_wp2
  go_loopw [7] (fun k wr => ∃ j : Nat, j ≤ 13 ∧ k = .int .i64 (j : Int) ∧ wr = w ∧ bn (nsT.drop j) s.toList j = Rr) (fun k _ => (13 - intOf k).toNat)
  case atStart => exact ⟨0, by omega, rfl, rfl, by rw [← hRr]; rfl⟩
  case round =>
    obtain ⟨j, hj, rfl, rfl, hR⟩ := hrel
    obtain rfl | rfl | rfl | rfl | rfl | rfl | rfl | rfl | rfl | rfl | rfl | rfl | rfl | rfl : j = 0 ∨ j = 1 ∨ j = 2 ∨ j = 3 ∨ j = 4 ∨ j = 5 ∨ j = 6 ∨ j = 7 ∨ j = 8 ∨ j = 9 ∨ j = 10 ∨ j = 11 ∨ j = 12 ∨ j = 13 := by omega
    · rw [show ((0 : Nat) : Int) = 0 from rfl] at hR ⊢
      have ix := idx_0
      rw [show bn (nsT.drop 0) s.toList 0 = cond ([110, 111, 114, 109, 97, 108] == s.toList) (1, true) (bn (nsT.drop 1) s.toList 1) from rfl] at hR
      cases hq : ([110, 111, 114, 109, 97, 108] == s.toList) with
      | true =>
        rw [hq] at hR
        replace hR := hR.symm
        subst hR
        go_wp2
        go_ret2
        exact ⟨rfl, rfl⟩
      | false =>
        rw [hq] at hR
        go_wp2
        go_roundw
        case rel => exact ⟨1, by omega, rfl, by simp, hR⟩
        case measure => simp [intOf]
    · rw [show ((1 : Nat) : Int) = 1 from rfl] at hR ⊢
      have ix := idx_1
      rw [show bn (nsT.drop 1) s.toList 1 = cond ([109, 117, 108, 116, 105, 112, 108, 121] == s.toList) (2, true) (bn (nsT.drop 2) s.toList 2) from rfl] at hR
      cases hq : ([109, 117, 108, 116, 105, 112, 108, 121] == s.toList) with
      | true =>
        rw [hq] at hR
        replace hR := hR.symm
        subst hR
        go_wp2
        go_ret2
        exact ⟨rfl, rfl⟩
      | false =>
        rw [hq] at hR
        go_wp2
        go_roundw
        case rel => exact ⟨2, by omega, rfl, by simp, hR⟩
        case measure => simp [intOf]
    · rw [show ((2 : Nat) : Int) = 2 from rfl] at hR ⊢
      have ix := idx_2
      rw [show bn (nsT.drop 2) s.toList 2 = cond ([115, 99, 114, 101, 101, 110] == s.toList) (3, true) (bn (nsT.drop 3) s.toList 3) from rfl] at hR
      cases hq : ([115, 99, 114, 101, 101, 110] == s.toList) with
      | true =>
        rw [hq] at hR
        replace hR := hR.symm
        subst hR
        go_wp2
        go_ret2
        exact ⟨rfl, rfl⟩
      | false =>
        rw [hq] at hR
        go_wp2
        go_roundw
        case rel => exact ⟨3, by omega, rfl, by simp, hR⟩
        case measure => simp [intOf]
    · rw [show ((3 : Nat) : Int) = 3 from rfl] at hR ⊢
      have ix := idx_3
      rw [show bn (nsT.drop 3) s.toList 3 = cond ([111, 118, 101, 114, 108, 97, 121] == s.toList) (4, true) (bn (nsT.drop 4) s.toList 4) from rfl] at hR
      cases hq : ([111, 118, 101, 114, 108, 97, 121] == s.toList) with
      | true =>
        rw [hq] at hR
        replace hR := hR.symm
        subst hR
        go_wp2
        go_ret2
        exact ⟨rfl, rfl⟩
      | false =>
        rw [hq] at hR
        go_wp2
        go_roundw
        case rel => exact ⟨4, by omega, rfl, by simp, hR⟩
        case measure => simp [intOf]
    · rw [show ((4 : Nat) : Int) = 4 from rfl] at hR ⊢
      have ix := idx_4
      rw [show bn (nsT.drop 4) s.toList 4 = cond ([100, 97, 114, 107, 101, 110] == s.toList) (5, true) (bn (nsT.drop 5) s.toList 5) from rfl] at hR
      cases hq : ([100, 97, 114, 107, 101, 110] == s.toList) with
      | true =>
        rw [hq] at hR
        replace hR := hR.symm
        subst hR
        go_wp2
        go_ret2
        exact ⟨rfl, rfl⟩
      | false =>
        rw [hq] at hR
        go_wp2
        go_roundw
        case rel => exact ⟨5, by omega, rfl, by simp, hR⟩
        case measure => simp [intOf]
    · rw [show ((5 : Nat) : Int) = 5 from rfl] at hR ⊢
      have ix := idx_5
      rw [show bn (nsT.drop 5) s.toList 5 = cond ([108, 105, 103, 104, 116, 101, 110] == s.toList) (6, true) (bn (nsT.drop 6) s.toList 6) from rfl] at hR
      cases hq : ([108, 105, 103, 104, 116, 101, 110] == s.toList) with
      | true =>
        rw [hq] at hR
        replace hR := hR.symm
        subst hR
        go_wp2
        go_ret2
        exact ⟨rfl, rfl⟩
      | false =>
        rw [hq] at hR
        go_wp2
        go_roundw
        case rel => exact ⟨6, by omega, rfl, by simp, hR⟩
        case measure => simp [intOf]
    · rw [show ((6 : Nat) : Int) = 6 from rfl] at hR ⊢
      have ix := idx_6
      rw [show bn (nsT.drop 6) s.toList 6 = cond ([100, 105, 102, 102, 101, 114, 101, 110, 99, 101] == s.toList) (7, true) (bn (nsT.drop 7) s.toList 7) from rfl] at hR
      cases hq : ([100, 105, 102, 102, 101, 114, 101, 110, 99, 101] == s.toList) with
      | true =>
        rw [hq] at hR
        replace hR := hR.symm
        subst hR
        go_wp2
        go_ret2
        exact ⟨rfl, rfl⟩
      | false =>
        rw [hq] at hR
        go_wp2
        go_roundw
        case rel => exact ⟨7, by omega, rfl, by simp, hR⟩
        case measure => simp [intOf]
    · rw [show ((7 : Nat) : Int) = 7 from rfl] at hR ⊢
      have ix := idx_7
      rw [show bn (nsT.drop 7) s.toList 7 = cond ([101, 120, 99, 108, 117, 115, 105, 111, 110] == s.toList) (8, true) (bn (nsT.drop 8) s.toList 8) from rfl] at hR
      cases hq : ([101, 120, 99, 108, 117, 115, 105, 111, 110] == s.toList) with
      | true =>
        rw [hq] at hR
        replace hR := hR.symm
        subst hR
        go_wp2
        go_ret2
        exact ⟨rfl, rfl⟩
      | false =>
        rw [hq] at hR
        go_wp2
        go_roundw
        case rel => exact ⟨8, by omega, rfl, by simp, hR⟩
        case measure => simp [intOf]
    · rw [show ((8 : Nat) : Int) = 8 from rfl] at hR ⊢
      have ix := idx_8
      rw [show bn (nsT.drop 8) s.toList 8 = cond ([104, 97, 114, 100, 108, 105, 103, 104, 116] == s.toList) (9, true) (bn (nsT.drop 9) s.toList 9) from rfl] at hR
      cases hq : ([104, 97, 114, 100, 108, 105, 103, 104, 116] == s.toList) with
      | true =>
        rw [hq] at hR
        replace hR := hR.symm
        subst hR
        go_wp2
        go_ret2
        exact ⟨rfl, rfl⟩
      | false =>
        rw [hq] at hR
        go_wp2
        go_roundw
        case rel => exact ⟨9, by omega, rfl, by simp, hR⟩
        case measure => simp [intOf]
    · rw [show ((9 : Nat) : Int) = 9 from rfl] at hR ⊢
      have ix := idx_9
      rw [show bn (nsT.drop 9) s.toList 9 = cond ([104, 117, 101] == s.toList) (10, true) (bn (nsT.drop 10) s.toList 10) from rfl] at hR
      cases hq : ([104, 117, 101] == s.toList) with
      | true =>
        rw [hq] at hR
        replace hR := hR.symm
        subst hR
        go_wp2
        go_ret2
        exact ⟨rfl, rfl⟩
      | false =>
        rw [hq] at hR
        go_wp2
        go_roundw
        case rel => exact ⟨10, by omega, rfl, by simp, hR⟩
        case measure => simp [intOf]
    · rw [show ((10 : Nat) : Int) = 10 from rfl] at hR ⊢
      have ix := idx_10
      rw [show bn (nsT.drop 10) s.toList 10 = cond ([115, 97, 116, 117, 114, 97, 116, 105, 111, 110] == s.toList) (11, true) (bn (nsT.drop 11) s.toList 11) from rfl] at hR
      cases hq : ([115, 97, 116, 117, 114, 97, 116, 105, 111, 110] == s.toList) with
      | true =>
        rw [hq] at hR
        replace hR := hR.symm
        subst hR
        go_wp2
        go_ret2
        exact ⟨rfl, rfl⟩
      | false =>
        rw [hq] at hR
        go_wp2
        go_roundw
        case rel => exact ⟨11, by omega, rfl, by simp, hR⟩
        case measure => simp [intOf]
    · rw [show ((11 : Nat) : Int) = 11 from rfl] at hR ⊢
      have ix := idx_11
      rw [show bn (nsT.drop 11) s.toList 11 = cond ([99, 111, 108, 111, 114] == s.toList) (12, true) (bn (nsT.drop 12) s.toList 12) from rfl] at hR
      cases hq : ([99, 111, 108, 111, 114] == s.toList) with
      | true =>
        rw [hq] at hR
        replace hR := hR.symm
        subst hR
        go_wp2
        go_ret2
        exact ⟨rfl, rfl⟩
      | false =>
        rw [hq] at hR
        go_wp2
        go_roundw
        case rel => exact ⟨12, by omega, rfl, by simp, hR⟩
        case measure => simp [intOf]
    · rw [show ((12 : Nat) : Int) = 12 from rfl] at hR ⊢
      have ix := idx_12
      rw [show bn (nsT.drop 12) s.toList 12 = cond ([108, 117, 109, 105, 110, 111, 115, 105, 116, 121] == s.toList) (13, true) (bn (nsT.drop 13) s.toList 13) from rfl] at hR
      cases hq : ([108, 117, 109, 105, 110, 111, 115, 105, 116, 121] == s.toList) with
      | true =>
        rw [hq] at hR
        replace hR := hR.symm
        subst hR
        go_wp2
        go_ret2
        exact ⟨rfl, rfl⟩
      | false =>
        rw [hq] at hR
        go_wp2
        go_roundw
        case rel => exact ⟨13, by omega, rfl, by simp, hR⟩
        case measure => simp [intOf]
    · rw [show ((13 : Nat) : Int) = 13 from rfl] at hR ⊢
      replace hR : (0, false) = Rr := hR
      subst hR
      go_wp2
      go_ret2
      exact ⟨rfl, rfl⟩

set_option maxRecDepth 100000 in
set_option maxHeartbeats 8000000 in
theorem rbyName_any (s : ByteArray) (w : World) : Calls Tryd.prog 15 #[.string s] w fun e w' => e = .returned (.tuple #[.int .i64 (bn nsT s.toList 0).1, .bool (bn nsT s.toList 0).2]) ∧ Below w.heap.size w w' := by
  obtain ⟨Rr, hRr⟩ : ∃ x, bn nsT s.toList 0 = x := ⟨_, rfl⟩
  rw [hRr]
  go_enter Tryd.func15, Tryd.ntmps15
  go_wp2_with (go_at_call 28; (with_reducible refine (rnames_any _).mono ?_); rintro e w1 ⟨rfl, ⟨kn0, kn1, kn2, kn3, kn4, kn5, kn6, kn7, kn8, kn9, kn10, kn11, kn12⟩, hb⟩)
  go_loopw [5] (fun k wr => ∃ j : Nat, j ≤ 13 ∧ k = .int .i64 (j : Int) ∧ wr = w1 ∧ bn (nsT.drop j) s.toList j = Rr) (fun k _ => (13 - intOf k).toNat)
  case atStart => exact ⟨0, by omega, rfl, rfl, by rw [← hRr]; rfl⟩
  case round =>
    obtain ⟨j, hj, rfl, rfl, hR⟩ := hrel
    obtain rfl | rfl | rfl | rfl | rfl | rfl | rfl | rfl | rfl | rfl | rfl | rfl | rfl | rfl : j = 0 ∨ j = 1 ∨ j = 2 ∨ j = 3 ∨ j = 4 ∨ j = 5 ∨ j = 6 ∨ j = 7 ∨ j = 8 ∨ j = 9 ∨ j = 10 ∨ j = 11 ∨ j = 12 ∨ j = 13 := by omega
    · rw [show ((0 : Nat) : Int) = 0 from rfl] at hR ⊢
      rw [show bn (nsT.drop 0) s.toList 0 = cond ([110, 111, 114, 109, 97, 108] == s.toList) (1, true) (bn (nsT.drop 1) s.toList 1) from rfl] at hR
      cases hq : ([110, 111, 114, 109, 97, 108] == s.toList) with
      | true =>
        rw [hq] at hR
        replace hR := hR.symm
        subst hR
        go_wp2
        go_ret2
        exact ⟨rfl, hb⟩
      | false =>
        rw [hq] at hR
        go_wp2
        go_roundw
        case rel => exact ⟨1, by omega, rfl, by simp, hR⟩
        case measure => simp [intOf]
    · rw [show ((1 : Nat) : Int) = 1 from rfl] at hR ⊢
      rw [show bn (nsT.drop 1) s.toList 1 = cond ([109, 117, 108, 116, 105, 112, 108, 121] == s.toList) (2, true) (bn (nsT.drop 2) s.toList 2) from rfl] at hR
      cases hq : ([109, 117, 108, 116, 105, 112, 108, 121] == s.toList) with
      | true =>
        rw [hq] at hR
        replace hR := hR.symm
        subst hR
        go_wp2
        go_ret2
        exact ⟨rfl, hb⟩
      | false =>
        rw [hq] at hR
        go_wp2
        go_roundw
        case rel => exact ⟨2, by omega, rfl, by simp, hR⟩
        case measure => simp [intOf]
    · rw [show ((2 : Nat) : Int) = 2 from rfl] at hR ⊢
      rw [show bn (nsT.drop 2) s.toList 2 = cond ([115, 99, 114, 101, 101, 110] == s.toList) (3, true) (bn (nsT.drop 3) s.toList 3) from rfl] at hR
      cases hq : ([115, 99, 114, 101, 101, 110] == s.toList) with
      | true =>
        rw [hq] at hR
        replace hR := hR.symm
        subst hR
        go_wp2
        go_ret2
        exact ⟨rfl, hb⟩
      | false =>
        rw [hq] at hR
        go_wp2
        go_roundw
        case rel => exact ⟨3, by omega, rfl, by simp, hR⟩
        case measure => simp [intOf]
    · rw [show ((3 : Nat) : Int) = 3 from rfl] at hR ⊢
      rw [show bn (nsT.drop 3) s.toList 3 = cond ([111, 118, 101, 114, 108, 97, 121] == s.toList) (4, true) (bn (nsT.drop 4) s.toList 4) from rfl] at hR
      cases hq : ([111, 118, 101, 114, 108, 97, 121] == s.toList) with
      | true =>
        rw [hq] at hR
        replace hR := hR.symm
        subst hR
        go_wp2
        go_ret2
        exact ⟨rfl, hb⟩
      | false =>
        rw [hq] at hR
        go_wp2
        go_roundw
        case rel => exact ⟨4, by omega, rfl, by simp, hR⟩
        case measure => simp [intOf]
    · rw [show ((4 : Nat) : Int) = 4 from rfl] at hR ⊢
      rw [show bn (nsT.drop 4) s.toList 4 = cond ([100, 97, 114, 107, 101, 110] == s.toList) (5, true) (bn (nsT.drop 5) s.toList 5) from rfl] at hR
      cases hq : ([100, 97, 114, 107, 101, 110] == s.toList) with
      | true =>
        rw [hq] at hR
        replace hR := hR.symm
        subst hR
        go_wp2
        go_ret2
        exact ⟨rfl, hb⟩
      | false =>
        rw [hq] at hR
        go_wp2
        go_roundw
        case rel => exact ⟨5, by omega, rfl, by simp, hR⟩
        case measure => simp [intOf]
    · rw [show ((5 : Nat) : Int) = 5 from rfl] at hR ⊢
      rw [show bn (nsT.drop 5) s.toList 5 = cond ([108, 105, 103, 104, 116, 101, 110] == s.toList) (6, true) (bn (nsT.drop 6) s.toList 6) from rfl] at hR
      cases hq : ([108, 105, 103, 104, 116, 101, 110] == s.toList) with
      | true =>
        rw [hq] at hR
        replace hR := hR.symm
        subst hR
        go_wp2
        go_ret2
        exact ⟨rfl, hb⟩
      | false =>
        rw [hq] at hR
        go_wp2
        go_roundw
        case rel => exact ⟨6, by omega, rfl, by simp, hR⟩
        case measure => simp [intOf]
    · rw [show ((6 : Nat) : Int) = 6 from rfl] at hR ⊢
      rw [show bn (nsT.drop 6) s.toList 6 = cond ([100, 105, 102, 102, 101, 114, 101, 110, 99, 101] == s.toList) (7, true) (bn (nsT.drop 7) s.toList 7) from rfl] at hR
      cases hq : ([100, 105, 102, 102, 101, 114, 101, 110, 99, 101] == s.toList) with
      | true =>
        rw [hq] at hR
        replace hR := hR.symm
        subst hR
        go_wp2
        go_ret2
        exact ⟨rfl, hb⟩
      | false =>
        rw [hq] at hR
        go_wp2
        go_roundw
        case rel => exact ⟨7, by omega, rfl, by simp, hR⟩
        case measure => simp [intOf]
    · rw [show ((7 : Nat) : Int) = 7 from rfl] at hR ⊢
      rw [show bn (nsT.drop 7) s.toList 7 = cond ([101, 120, 99, 108, 117, 115, 105, 111, 110] == s.toList) (8, true) (bn (nsT.drop 8) s.toList 8) from rfl] at hR
      cases hq : ([101, 120, 99, 108, 117, 115, 105, 111, 110] == s.toList) with
      | true =>
        rw [hq] at hR
        replace hR := hR.symm
        subst hR
        go_wp2
        go_ret2
        exact ⟨rfl, hb⟩
      | false =>
        rw [hq] at hR
        go_wp2
        go_roundw
        case rel => exact ⟨8, by omega, rfl, by simp, hR⟩
        case measure => simp [intOf]
    · rw [show ((8 : Nat) : Int) = 8 from rfl] at hR ⊢
      rw [show bn (nsT.drop 8) s.toList 8 = cond ([104, 97, 114, 100, 108, 105, 103, 104, 116] == s.toList) (9, true) (bn (nsT.drop 9) s.toList 9) from rfl] at hR
      cases hq : ([104, 97, 114, 100, 108, 105, 103, 104, 116] == s.toList) with
      | true =>
        rw [hq] at hR
        replace hR := hR.symm
        subst hR
        go_wp2
        go_ret2
        exact ⟨rfl, hb⟩
      | false =>
        rw [hq] at hR
        go_wp2
        go_roundw
        case rel => exact ⟨9, by omega, rfl, by simp, hR⟩
        case measure => simp [intOf]
    · rw [show ((9 : Nat) : Int) = 9 from rfl] at hR ⊢
      rw [show bn (nsT.drop 9) s.toList 9 = cond ([104, 117, 101] == s.toList) (10, true) (bn (nsT.drop 10) s.toList 10) from rfl] at hR
      cases hq : ([104, 117, 101] == s.toList) with
      | true =>
        rw [hq] at hR
        replace hR := hR.symm
        subst hR
        go_wp2
        go_ret2
        exact ⟨rfl, hb⟩
      | false =>
        rw [hq] at hR
        go_wp2
        go_roundw
        case rel => exact ⟨10, by omega, rfl, by simp, hR⟩
        case measure => simp [intOf]
    · rw [show ((10 : Nat) : Int) = 10 from rfl] at hR ⊢
      rw [show bn (nsT.drop 10) s.toList 10 = cond ([115, 97, 116, 117, 114, 97, 116, 105, 111, 110] == s.toList) (11, true) (bn (nsT.drop 11) s.toList 11) from rfl] at hR
      cases hq : ([115, 97, 116, 117, 114, 97, 116, 105, 111, 110] == s.toList) with
      | true =>
        rw [hq] at hR
        replace hR := hR.symm
        subst hR
        go_wp2
        go_ret2
        exact ⟨rfl, hb⟩
      | false =>
        rw [hq] at hR
        go_wp2
        go_roundw
        case rel => exact ⟨11, by omega, rfl, by simp, hR⟩
        case measure => simp [intOf]
    · rw [show ((11 : Nat) : Int) = 11 from rfl] at hR ⊢
      rw [show bn (nsT.drop 11) s.toList 11 = cond ([99, 111, 108, 111, 114] == s.toList) (12, true) (bn (nsT.drop 12) s.toList 12) from rfl] at hR
      cases hq : ([99, 111, 108, 111, 114] == s.toList) with
      | true =>
        rw [hq] at hR
        replace hR := hR.symm
        subst hR
        go_wp2
        go_ret2
        exact ⟨rfl, hb⟩
      | false =>
        rw [hq] at hR
        go_wp2
        go_roundw
        case rel => exact ⟨12, by omega, rfl, by simp, hR⟩
        case measure => simp [intOf]
    · rw [show ((12 : Nat) : Int) = 12 from rfl] at hR ⊢
      rw [show bn (nsT.drop 12) s.toList 12 = cond ([108, 117, 109, 105, 110, 111, 115, 105, 116, 121] == s.toList) (13, true) (bn (nsT.drop 13) s.toList 13) from rfl] at hR
      cases hq : ([108, 117, 109, 105, 110, 111, 115, 105, 116, 121] == s.toList) with
      | true =>
        rw [hq] at hR
        replace hR := hR.symm
        subst hR
        go_wp2
        go_ret2
        exact ⟨rfl, hb⟩
      | false =>
        rw [hq] at hR
        go_wp2
        go_roundw
        case rel => exact ⟨13, by omega, rfl, by simp, hR⟩
        case measure => simp [intOf]
    · rw [show ((13 : Nat) : Int) = 13 from rfl] at hR ⊢
      replace hR : (0, false) = Rr := hR
      subst hR
      go_wp2
      go_ret2
      exact ⟨rfl, hb⟩
end Go.Proofs.YtdhajiaepaamgaaDoor
