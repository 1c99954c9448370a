import Derived.Test.YtgaabdidddglhaaM1
import Derived.WalkKit
import Derived.WalkSpells
import Derived.WalkLawsBesides
import Derived.Lib.Hide
import Derived.Below
import Derived.Deep.QuietTactic
import Derived.BigQuiet
import Derived.Deep.RegionHeld3
import Derived.Deep.DrawnRows
import Derived.Deep.DeepFit
import Derived.IntWalk
namespace Go.Proofs.Ytgaabdidddglhaa
open Go.RowKit
set_option linter.unusedVariables false
set_option linter.unusedSimpArgs false
attribute [local go_sem ↓] Go.wp_at_zero Go.wp_at_succ
attribute [local go_sem] rhoF_tmp rhoF_const rhoF_global rhoF_func

def ff2 (op s d : Int) : Int := if 1 ≤ op ∧ op ≤ 10 then fac2 op s d else 255
theorem fac1_bd (op s d : Int) (s0 : 0 ≤ s) (s1 : s ≤ 255) (d0 : 0 ≤ d) (d1 : d ≤ 255) : 0 ≤ fac1 op s d ∧ fac1 op s d ≤ 255 := by
  unfold fac1; repeat (split; omega)
  omega
theorem fac2_bd (op s d : Int) (s0 : 0 ≤ s) (s1 : s ≤ 255) (d0 : 0 ≤ d) (d1 : d ≤ 255) : 0 ≤ fac2 op s d ∧ fac2 op s d ≤ 255 := by
  unfold fac2; repeat (split; omega)
  omega
theorem ff2_bd (op s d : Int) (s0 : 0 ≤ s) (s1 : s ≤ 255) (d0 : 0 ≤ d) (d1 : d ≤ 255) : 0 ≤ ff2 op s d ∧ ff2 op s d ≤ 255 := by
  unfold ff2; split
  · exact fac2_bd op s d s0 s1 d0 d1
  · omega
theorem fac1_out (op s d : Int) (h : ¬ (1 ≤ op ∧ op ≤ 10)) : fac1 op s d = 0 := by unfold fac1; rw [if_neg (by omega)]; rw [if_neg (by omega)]; rw [if_neg (by omega)]; rw [if_neg (by omega)]; rw [if_neg (by omega)]; rw [if_neg (by omega)]; rw [if_neg (by omega)]; rw [if_neg (by omega)]; rw [if_neg (by omega)]; rw [if_neg (by omega)]

set_option maxHeartbeats 4000000 in
theorem factors_any (op s d : Int) (s0 : 0 ≤ s) (s1 : s ≤ 255) (d0 : 0 ≤ d) (d1 : d ≤ 255) (hw : (Lit.int .i64 op).wf = true) (w : World) :
    Calls Try.prog 10 #[.int .i64 op, .int .u8 s, .int .u8 d] w fun e w' => e = .returned (.tuple #[.int .i64 (fac1 op s d), .int .i64 (ff2 op s d)]) ∧ Below w.heap.size w w' := by
  by_cases ho : 1 ≤ op ∧ op ≤ 10
  · have hv : (decide (1 ≤ op) && decide (op ≤ 10)) = true := by simp [ho.1, ho.2]
    rw [show ff2 op s d = fac2 op s d by unfold ff2; rw [if_pos ho]]
    obtain ⟨x, hx⟩ : ∃ z, fac1 op s d = z := ⟨_, rfl⟩
    obtain ⟨y, hy⟩ : ∃ z, fac2 op s d = z := ⟨_, rfl⟩
    have fac_look := fun w b h => fac_look s d op w b h hw
    rw [hx, hy, hv] at fac_look
    rw [hx, hy]
    clear hx hy ho
    go_enter Try.func10, Try.ntmps10
    go_wp2_with (go_at_call 24; (with_reducible refine (operators_any s d s0 s1 d0 d1 _).mono ?_); rintro e w1 ⟨rfl, hown, hb⟩; have hl := fac_look w1 _ hown; clear hown; have hz := hb.size)
    go_quiet (fail)
    go_wp2
    go_ret2
    exact ⟨rfl, by repeat (first | with_reducible exact hb | with_reducible apply below_drewN | with_reducible apply Below.drew | (with_reducible refine Below.alloc ?_ (by first | (simp; done) | (simp; omega) | omega) _) | (with_reducible refine Below.setCell ?_ (by first | (simp; done) | (simp; omega) | omega) _))⟩
  · have hv : (decide (1 ≤ op) && decide (op ≤ 10)) = false := by simp; omega
    rw [show ff2 op s d = 255 by unfold ff2; rw [if_neg ho], fac1_out op s d ho]
    have fac_look := fun w b h => fac_look s d op w b h hw
    obtain ⟨x, hx⟩ : ∃ z, fac1 op s d = z := ⟨_, rfl⟩
    obtain ⟨y, hy⟩ : ∃ z, fac2 op s d = z := ⟨_, rfl⟩
    rw [hx, hy, hv] at fac_look
    clear hx hy ho
    go_enter Try.func10, Try.ntmps10
    go_wp2_with (go_at_call 24; (with_reducible refine (operators_any s d s0 s1 d0 d1 _).mono ?_); rintro e w1 ⟨rfl, hown, hb⟩; have hl := fac_look w1 _ hown; clear hown; have hz := hb.size)
    go_ret2
    exact ⟨rfl, by repeat (first | with_reducible exact hb | with_reducible apply below_drewN | with_reducible apply Below.drew | (with_reducible refine Below.alloc ?_ (by first | (simp; done) | (simp; omega) | omega) _) | (with_reducible refine Below.setCell ?_ (by first | (simp; done) | (simp; omega) | omega) _))⟩

set_option maxHeartbeats 4000000 in
theorem validOp_any (op : Int) (hw : (Lit.int .i64 op).wf = true) (w : World) :
    Calls Try.prog 12 #[.int .i64 op] w fun e w' => e = .returned (.bool (decide (1 ≤ op) && decide (op ≤ 10))) ∧ Below w.heap.size w w' := by
  have fac_look := fun w b h => fac_look 0 0 op w b h hw
  obtain ⟨x, hx⟩ : ∃ z, fac1 op 0 0 = z := ⟨_, rfl⟩
  obtain ⟨y, hy⟩ : ∃ z, fac2 op 0 0 = z := ⟨_, rfl⟩
  obtain ⟨v, hv⟩ : ∃ z, (decide (1 ≤ op) && decide (op ≤ 10)) = z := ⟨_, rfl⟩
  rw [hx, hy, hv] at fac_look
  rw [hv]
  clear hx hy hv
  go_enter Try.func12, Try.ntmps12
  go_wp2_with (go_at_call 24; (with_reducible refine (operators_any 0 0 (by omega) (by omega) (by omega) (by omega) _).mono ?_); rintro e w1 ⟨rfl, hown, hb⟩; have hl := fac_look w1 _ hown; clear hown; have hz := hb.size)
  go_ret
  exact ⟨rfl, by repeat (first | with_reducible exact hb | with_reducible apply below_drewN | with_reducible apply Below.drew | (with_reducible refine Below.alloc ?_ (by first | (simp; done) | (simp; omega) | omega) _) | (with_reducible refine Below.setCell ?_ (by first | (simp; done) | (simp; omega) | omega) _))⟩

set_option maxHeartbeats 4000000 in
theorem rfactors_any (op s d : Int) (s0 : 0 ≤ s) (s1 : s ≤ 255) (d0 : 0 ≤ d) (d1 : d ≤ 255) (w : World) :
    Calls Try.prog 11 #[.int .i64 op, .int .u8 s, .int .u8 d] w fun e w' => e = .returned (.tuple #[.int .i64 (fac1 op s d), .int .i64 (ff2 op s d)]) ∧ w = w' := by
  by_cases k1 : op = 1
  · subst k1
    rw [show fac1 1 s d = 0 by simp [fac1], show ff2 1 s d = 0 by simp [ff2, fac2]]
    go_enter Try.func11, Try.ntmps11
    go_wp2
    go_ret2
    exact ⟨rfl, rfl⟩
  have n1 : (op == 1) = false := by simpa using k1
  by_cases k2 : op = 2
  · subst k2
    rw [show fac1 2 s d = 255 by simp [fac1], show ff2 2 s d = 0 by simp [ff2, fac2]]
    go_enter Try.func11, Try.ntmps11
    go_wp2
    go_ret2
    exact ⟨rfl, rfl⟩
  have n2 : (op == 2) = false := by simpa using k2
  by_cases k3 : op = 3
  · subst k3
    rw [show fac1 3 s d = 255 by simp [fac1], show ff2 3 s d = 255 - s by simp [ff2, fac2]]
    go_enter Try.func11, Try.ntmps11
    go_wp2
    go_ret2
    exact ⟨rfl, rfl⟩
  have n3 : (op == 3) = false := by simpa using k3
  by_cases k4 : op = 4
  · subst k4
    rw [show fac1 4 s d = d by simp [fac1], show ff2 4 s d = 0 by simp [ff2, fac2]]
    go_enter Try.func11, Try.ntmps11
    go_wp2
    go_ret2
    exact ⟨rfl, rfl⟩
  have n4 : (op == 4) = false := by simpa using k4
  by_cases k5 : op = 5
  · subst k5
    rw [show fac1 5 s d = 255 - d by simp [fac1], show ff2 5 s d = 0 by simp [ff2, fac2]]
    go_enter Try.func11, Try.ntmps11
    go_wp2
    go_ret2
    exact ⟨rfl, rfl⟩
  have n5 : (op == 5) = false := by simpa using k5
  by_cases k6 : op = 6
  · subst k6
    rw [show fac1 6 s d = d by simp [fac1], show ff2 6 s d = 255 - s by simp [ff2, fac2]]
    go_enter Try.func11, Try.ntmps11
    go_wp2
    go_ret2
    exact ⟨rfl, rfl⟩
  have n6 : (op == 6) = false := by simpa using k6
  by_cases k7 : op = 7
  · subst k7
    rw [show fac1 7 s d = 255 - d by simp [fac1], show ff2 7 s d = 255 - s by simp [ff2, fac2]]
    go_enter Try.func11, Try.ntmps11
    go_wp2
    go_ret2
    exact ⟨rfl, rfl⟩
  have n7 : (op == 7) = false := by simpa using k7
  by_cases k8 : op = 8
  · subst k8
    rw [show fac1 8 s d = 255 by simp [fac1], show ff2 8 s d = 255 by simp [ff2, fac2]]
    go_enter Try.func11, Try.ntmps11
    go_wp2
    go_ret2
    exact ⟨rfl, rfl⟩
  have n8 : (op == 8) = false := by simpa using k8
  by_cases k9 : op = 9
  · subst k9
    rw [show fac1 9 s d = 0 by simp [fac1], show ff2 9 s d = s by simp [ff2, fac2]]
    go_enter Try.func11, Try.ntmps11
    go_wp2
    go_ret2
    exact ⟨rfl, rfl⟩
  have n9 : (op == 9) = false := by simpa using k9
  by_cases k10 : op = 10
  · subst k10
    rw [show fac1 10 s d = 0 by simp [fac1], show ff2 10 s d = 255 - s by simp [ff2, fac2]]
    go_enter Try.func11, Try.ntmps11
    go_wp2
    go_ret2
    exact ⟨rfl, rfl⟩
  have n10 : (op == 10) = false := by simpa using k10
  have ho : ¬ (1 ≤ op ∧ op ≤ 10) := by omega
  rw [show ff2 op s d = 255 by unfold ff2; rw [if_neg ho], fac1_out op s d ho]
  clear ho k1 k2 k3 k4 k5 k6 k7 k8 k9 k10
  go_enter Try.func11, Try.ntmps11
  go_wp2
  go_ret2
  exact ⟨rfl, rfl⟩

set_option maxHeartbeats 1000000 in
theorem rvalidOp_any (m : Int) (w : World) : Calls Try.prog 13 #[.int .i64 m] w fun e w' => e = .returned (.bool (decide (1 ≤ m) && decide (m ≤ 10))) ∧ w = w' := by
  by_cases h0 : 1 ≤ m
  · by_cases h1 : m ≤ 10
    · rw [show (decide (1 ≤ m) && decide (m ≤ 10)) = true by simp [h0, h1]]
      go_enter Try.func13, Try.ntmps13
      go_wp2
      go_ret
      exact ⟨rfl, rfl⟩
    · rw [show (decide (1 ≤ m) && decide (m ≤ 10)) = false by simp [h1]]
      go_enter Try.func13, Try.ntmps13
      go_wp2
      go_ret
      exact ⟨rfl, rfl⟩
  · rw [show (decide (1 ≤ m) && decide (m ≤ 10)) = false by simp [h0]]
    go_enter Try.func13, Try.ntmps13
    go_wp2
    go_ret
    exact ⟨rfl, rfl⟩
end Go.Proofs.Ytgaabdidddglhaa
