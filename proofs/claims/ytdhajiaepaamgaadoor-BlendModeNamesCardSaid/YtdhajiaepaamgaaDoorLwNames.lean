import Derived.Test.YtdhajiaepaamgaaDoorBX
import Derived.WalkKit
import Derived.WalkSpells
import Derived.WalkLawsBesides
import Derived.Lib.Hide
import Derived.Below
import Derived.Deep.QuietTactic
import Derived.BigQuiet
import Derived.Deep.RegionHeld3
import Derived.Deep.DrawnRows
import Derived.Deep.DeepFit
import Derived.IntWalk
namespace Go.Proofs.YtdhajiaepaamgaaDoor
open Go.RowKit
set_option linter.unusedVariables false
set_option linter.unusedSimpArgs false
attribute [local go_sem ↓] Go.wp_at_zero Go.wp_at_succ
attribute [local go_sem] rhoF_tmp rhoF_const rhoF_global rhoF_func

theorem bn_ok (l : List UInt8) : (bn nsT l 0).2 = true → (nmV (bn nsT l 0).1).toList = l := by
  unfold nsT
  simp only [bn]
  cases h0 : (([110, 111, 114, 109, 97, 108] : List UInt8) == l) with
  | true =>
    intro _
    have e := eq_of_beq h0
    subst e
    decide +kernel
  | false =>
  cases h1 : (([109, 117, 108, 116, 105, 112, 108, 121] : List UInt8) == l) with
  | true =>
    intro _
    have e := eq_of_beq h1
    subst e
    decide +kernel
  | false =>
  cases h2 : (([115, 99, 114, 101, 101, 110] : List UInt8) == l) with
  | true =>
    intro _
    have e := eq_of_beq h2
    subst e
    decide +kernel
  | false =>
  cases h3 : (([111, 118, 101, 114, 108, 97, 121] : List UInt8) == l) with
  | true =>
    intro _
    have e := eq_of_beq h3
    subst e
    decide +kernel
  | false =>
  cases h4 : (([100, 97, 114, 107, 101, 110] : List UInt8) == l) with
  | true =>
    intro _
    have e := eq_of_beq h4
    subst e
    decide +kernel
  | false =>
  cases h5 : (([108, 105, 103, 104, 116, 101, 110] : List UInt8) == l) with
  | true =>
    intro _
    have e := eq_of_beq h5
    subst e
    decide +kernel
  | false =>
  cases h6 : (([100, 105, 102, 102, 101, 114, 101, 110, 99, 101] : List UInt8) == l) with
  | true =>
    intro _
    have e := eq_of_beq h6
    subst e
    decide +kernel
  | false =>
  cases h7 : (([101, 120, 99, 108, 117, 115, 105, 111, 110] : List UInt8) == l) with
  | true =>
    intro _
    have e := eq_of_beq h7
    subst e
    decide +kernel
  | false =>
  cases h8 : (([104, 97, 114, 100, 108, 105, 103, 104, 116] : List UInt8) == l) with
  | true =>
    intro _
    have e := eq_of_beq h8
    subst e
    decide +kernel
  | false =>
  cases h9 : (([104, 117, 101] : List UInt8) == l) with
  | true =>
    intro _
    have e := eq_of_beq h9
    subst e
    decide +kernel
  | false =>
  cases h10 : (([115, 97, 116, 117, 114, 97, 116, 105, 111, 110] : List UInt8) == l) with
  | true =>
    intro _
    have e := eq_of_beq h10
    subst e
    decide +kernel
  | false =>
  cases h11 : (([99, 111, 108, 111, 114] : List UInt8) == l) with
  | true =>
    intro _
    have e := eq_of_beq h11
    subst e
    decide +kernel
  | false =>
  cases h12 : (([108, 117, 109, 105, 110, 111, 115, 105, 116, 121] : List UInt8) == l) with
  | true =>
    intro _
    have e := eq_of_beq h12
    subst e
    decide +kernel
  | false =>
  intro h
  exact absurd h (by decide)
theorem bn_valid (m : Int) (h : 1 ≤ m ∧ m ≤ 13) : bn nsT (nmV m).toList 0 = (m, true) := by
  have : m = 1 ∨ m = 2 ∨ m = 3 ∨ m = 4 ∨ m = 5 ∨ m = 6 ∨ m = 7 ∨ m = 8 ∨ m = 9 ∨ m = 10 ∨ m = 11 ∨ m = 12 ∨ m = 13 := by omega
  rcases this with rfl | rfl | rfl | rfl | rfl | rfl | rfl | rfl | rfl | rfl | rfl | rfl | rfl <;> decide +kernel

set_option maxRecDepth 100000 in
set_option maxHeartbeats 4000000 in
theorem bnames_w (m : Int) (s : ByteArray) (w : World) (hN : Nm w) :
    Calls Tryd.prog 3 #[.int .i64 m, .string s] w fun e w' => e = .returned (.bool true) ∧ Below w.heap.size w w' := by
  have hN' := hN
  have cn := fun w h => byName_any s w h
  have cr := fun w => rbyName_any s w
  have cm := fun w h => modeName_any m w h
  have crm := fun w => rmodeName_any m w
  have cv := fun w => validM_any m w
  have crv := fun w => rvalidM_any m w
  have cq := fun w h => modeName_any (bn nsT s.toList 0).1 w h
  have ck := fun w h => byName_any (nmV m) w h
  have ho := bn_ok s.toList
  obtain ⟨v, b, hR⟩ : ∃ v b, bn nsT s.toList 0 = (v, b) := ⟨_, _, rfl⟩
  rw [hR] at cn cr cq ho
  simp only at cn cr cq ho
  clear hR
  by_cases hm : 1 ≤ m ∧ m ≤ 13
  · rw [show (decide (1 ≤ m) && decide (m ≤ 13)) = true by simp; omega] at cv crv
    rw [bn_valid m hm] at ck
    simp only at ck
    clear hm
    obtain ⟨q, hq⟩ : ∃ x, nmV m = x := ⟨_, rfl⟩
    rw [hq] at cm crm ck
    clear hq
    cases b with
    | true =>
      have he : ((nmV v).toList == s.toList) = true := by rw [ho rfl]; simp
      obtain ⟨y, hy⟩ : ∃ x, nmV v = x := ⟨_, rfl⟩
      rw [hy] at cq he
      clear hy ho
      go_enter Tryd.func3, Tryd.ntmps3
      go_wp2_with (first | (go_at_call 14; first | ((with_reducible refine (cn _ hN').mono ?_); rintro e w9 ⟨rfl, rfl⟩) | ((with_reducible refine (ck _ hN').mono ?_); rintro e w9 ⟨rfl, rfl⟩)) | (go_at_call 15; (with_reducible refine (cr _).mono ?_); rintro e w1 ⟨rfl, hb1⟩; have hN' := hN'.below hb1) | (go_at_call 16; first | ((with_reducible refine (cm _ hN').mono ?_); rintro e w9 ⟨rfl, rfl⟩) | ((with_reducible refine (cq _ hN').mono ?_); rintro e w9 ⟨rfl, rfl⟩)) | (go_at_call 17; (with_reducible refine (cv _).mono ?_); rintro e w9 ⟨rfl, rfl⟩) | (go_at_call 18; (with_reducible refine (crv _).mono ?_); rintro e w9 ⟨rfl, rfl⟩) | (go_at_call 19; (with_reducible refine (crm _).mono ?_); rintro e w3 ⟨rfl, hb3⟩; have hN' := hN'.below hb3) | (go_at_call 20; (with_reducible refine (bex_any _ hN').mono ?_); rintro e w8 ⟨rfl, hb8⟩))
      go_ret
      exact ⟨rfl, bel_step (bel_step hb1 hb3) hb8⟩
    | false =>
      clear ho
      go_enter Tryd.func3, Tryd.ntmps3
      go_wp2_with (first | (go_at_call 14; first | ((with_reducible refine (cn _ hN').mono ?_); rintro e w9 ⟨rfl, rfl⟩) | ((with_reducible refine (ck _ hN').mono ?_); rintro e w9 ⟨rfl, rfl⟩)) | (go_at_call 15; (with_reducible refine (cr _).mono ?_); rintro e w1 ⟨rfl, hb1⟩; have hN' := hN'.below hb1) | (go_at_call 16; first | ((with_reducible refine (cm _ hN').mono ?_); rintro e w9 ⟨rfl, rfl⟩) | ((with_reducible refine (cq _ hN').mono ?_); rintro e w9 ⟨rfl, rfl⟩)) | (go_at_call 17; (with_reducible refine (cv _).mono ?_); rintro e w9 ⟨rfl, rfl⟩) | (go_at_call 18; (with_reducible refine (crv _).mono ?_); rintro e w9 ⟨rfl, rfl⟩) | (go_at_call 19; (with_reducible refine (crm _).mono ?_); rintro e w3 ⟨rfl, hb3⟩; have hN' := hN'.below hb3) | (go_at_call 20; (with_reducible refine (bex_any _ hN').mono ?_); rintro e w8 ⟨rfl, hb8⟩))
      go_ret
      exact ⟨rfl, bel_step (bel_step hb1 hb3) hb8⟩
  · rw [show (decide (1 ≤ m) && decide (m ≤ 13)) = false by simp; omega] at cv crv
    obtain ⟨v2, b2, hR2⟩ : ∃ v b, bn nsT (nmV m).toList 0 = (v, b) := ⟨_, _, rfl⟩
    rw [hR2] at ck
    simp only at ck
    clear hm hR2
    obtain ⟨q, hq⟩ : ∃ x, nmV m = x := ⟨_, rfl⟩
    rw [hq] at cm crm ck
    clear hq
    cases b with
    | true =>
      have he : ((nmV v).toList == s.toList) = true := by rw [ho rfl]; simp
      obtain ⟨y, hy⟩ : ∃ x, nmV v = x := ⟨_, rfl⟩
      rw [hy] at cq he
      clear hy ho
      go_enter Tryd.func3, Tryd.ntmps3
      go_wp2_with (first | (go_at_call 14; first | ((with_reducible refine (cn _ hN').mono ?_); rintro e w9 ⟨rfl, rfl⟩) | ((with_reducible refine (ck _ hN').mono ?_); rintro e w9 ⟨rfl, rfl⟩)) | (go_at_call 15; (with_reducible refine (cr _).mono ?_); rintro e w1 ⟨rfl, hb1⟩; have hN' := hN'.below hb1) | (go_at_call 16; first | ((with_reducible refine (cm _ hN').mono ?_); rintro e w9 ⟨rfl, rfl⟩) | ((with_reducible refine (cq _ hN').mono ?_); rintro e w9 ⟨rfl, rfl⟩)) | (go_at_call 17; (with_reducible refine (cv _).mono ?_); rintro e w9 ⟨rfl, rfl⟩) | (go_at_call 18; (with_reducible refine (crv _).mono ?_); rintro e w9 ⟨rfl, rfl⟩) | (go_at_call 19; (with_reducible refine (crm _).mono ?_); rintro e w3 ⟨rfl, hb3⟩; have hN' := hN'.below hb3) | (go_at_call 20; (with_reducible refine (bex_any _ hN').mono ?_); rintro e w8 ⟨rfl, hb8⟩))
      go_ret
      exact ⟨rfl, bel_step (bel_step hb1 hb3) hb8⟩
    | false =>
      clear ho
      go_enter Tryd.func3, Tryd.ntmps3
      go_wp2_with (first | (go_at_call 14; first | ((with_reducible refine (cn _ hN').mono ?_); rintro e w9 ⟨rfl, rfl⟩) | ((with_reducible refine (ck _ hN').mono ?_); rintro e w9 ⟨rfl, rfl⟩)) | (go_at_call 15; (with_reducible refine (cr _).mono ?_); rintro e w1 ⟨rfl, hb1⟩; have hN' := hN'.below hb1) | (go_at_call 16; first | ((with_reducible refine (cm _ hN').mono ?_); rintro e w9 ⟨rfl, rfl⟩) | ((with_reducible refine (cq _ hN').mono ?_); rintro e w9 ⟨rfl, rfl⟩)) | (go_at_call 17; (with_reducible refine (cv _).mono ?_); rintro e w9 ⟨rfl, rfl⟩) | (go_at_call 18; (with_reducible refine (crv _).mono ?_); rintro e w9 ⟨rfl, rfl⟩) | (go_at_call 19; (with_reducible refine (crm _).mono ?_); rintro e w3 ⟨rfl, hb3⟩; have hN' := hN'.below hb3) | (go_at_call 20; (with_reducible refine (bex_any _ hN').mono ?_); rintro e w8 ⟨rfl, hb8⟩))
      go_ret
      exact ⟨rfl, bel_step (bel_step hb1 hb3) hb8⟩
end Go.Proofs.YtdhajiaepaamgaaDoor
