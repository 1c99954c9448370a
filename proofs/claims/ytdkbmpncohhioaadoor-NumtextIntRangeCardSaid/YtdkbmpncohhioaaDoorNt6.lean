
import Derived.Test.YtdkbmpncohhioaaDoorNt5
namespace Go.Proofs.YtdkbmpncohhioaaDoor
open Go.RowKit
set_option linter.unusedVariables false
set_option linter.unusedSimpArgs false
attribute [local go_sem ↓] Go.wp_at_zero Go.wp_at_succ
theorem nir_w (S : ByteArray) (lo hi : Int) (w : World) (hsz9 : S.size ≤ 9223372036854775807) (hT : Tb w) (hM : Mx w) :
    Calls Tryd.prog 6 #[.string S, .int .i64 lo, .int .i64 hi] w fun e w' => e = .returned (.bool true) ∧ Below w.heap.size w w' := by
  obtain ⟨l, hS⟩ : ∃ l, S.data.toList = l := ⟨_, rfl⟩
  have hsz := str_size hS
  obtain ⟨n, hn⟩ : ∃ n, S.size = n := ⟨_, rfl⟩
  rw [hn] at hsz hsz9
  by_cases hbig : 1100 < n
  · clear hS hsz
    go_enter Tryd.func6, Tryd.ntmps6
    go_wp2_with (go_at_call 8; go_loud ((with_reducible refine (ex_any _ hT hM).mono ?_); rintro e w9 ⟨rfl, hb9⟩))
    go_ret
    exact ⟨rfl, hb9⟩
  have hP := fun W => pint_any S l W hS (by omega)
  have hR := fun W => pir_any S l lo hi W hS (by omega)
  unfold irV irE at hR
  obtain ⟨E, hE⟩ : ∃ E, iE l = E := ⟨_, rfl⟩
  obtain ⟨V, hV⟩ : ∃ V, iV l = V := ⟨_, rfl⟩
  simp only [hE, hV] at hP hR
  clear hE hV hS hsz
  by_cases h0 : E = 0
  · subst h0
    simp only [if_pos] at hR
    by_cases h1 : V < lo
    · have d1 : decide (V < lo) = true := by simp; omega
      simp only [if_pos (Or.inl h1 : V < lo ∨ hi < V)] at hR
      clear h1
      have HP := Lib.hid hP
      have HR := Lib.hid hR
      clear hP hR
      go_enter Tryd.func6, Tryd.ntmps6
      go_wp2_with (first
        | (go_at_call 9; go_loud ((with_reducible refine (HP.out _).mono ?_); unfold dui; rintro e w1 ⟨rfl, hb1⟩))
        | (go_at_call 20; go_loud ((with_reducible refine (HR.out _).mono ?_); unfold dui; rintro e w2 ⟨rfl, hc2⟩; have hbE := bel_step hb1 hc2))
        | (go_at_call 8; go_loud ((with_reducible refine (ex_any _ (hT.below hbE) (hM.below hbE)).mono ?_); rintro e w9 ⟨rfl, hc9⟩; have hb9 := bel_step hbE hc9)))
      go_ret
      exact ⟨rfl, hb9⟩
    · by_cases h2 : hi < V
      · have d1 : decide (V < lo) = false := by simp; omega
        have d2 : decide (hi < V) = true := by simp; omega
        simp only [if_pos (Or.inr h2 : V < lo ∨ hi < V)] at hR
        clear h1 h2
        have HP := Lib.hid hP
        have HR := Lib.hid hR
        clear hP hR
        go_enter Tryd.func6, Tryd.ntmps6
        go_wp2_with (first
          | (go_at_call 9; go_loud ((with_reducible refine (HP.out _).mono ?_); unfold dui; rintro e w1 ⟨rfl, hb1⟩))
          | (go_at_call 20; go_loud ((with_reducible refine (HR.out _).mono ?_); unfold dui; rintro e w2 ⟨rfl, hc2⟩; have hbE := bel_step hb1 hc2))
          | (go_at_call 8; go_loud ((with_reducible refine (ex_any _ (hT.below hbE) (hM.below hbE)).mono ?_); rintro e w9 ⟨rfl, hc9⟩; have hb9 := bel_step hbE hc9)))
        go_ret
        exact ⟨rfl, hb9⟩
      · have d1 : decide (V < lo) = false := by simp; omega
        have d2 : decide (hi < V) = false := by simp; omega
        simp only [if_neg (show ¬ (V < lo ∨ hi < V) by omega)] at hR
        clear h1 h2
        have HP := Lib.hid hP
        have HR := Lib.hid hR
        clear hP hR
        go_enter Tryd.func6, Tryd.ntmps6
        go_wp2_with (first
          | (go_at_call 9; go_loud ((with_reducible refine (HP.out _).mono ?_); unfold dui; rintro e w1 ⟨rfl, hb1⟩))
          | (go_at_call 20; go_loud ((with_reducible refine (HR.out _).mono ?_); unfold dui; rintro e w2 ⟨rfl, hc2⟩; have hbE := bel_step hb1 hc2))
          | (go_at_call 8; go_loud ((with_reducible refine (ex_any _ (hT.below hbE) (hM.below hbE)).mono ?_); rintro e w9 ⟨rfl, hc9⟩; have hb9 := bel_step hbE hc9)))
        go_ret
        exact ⟨rfl, hb9⟩
  · simp only [if_neg h0] at hR
    have q1 : ((E : Int) == 0) = false := by simp; exact h0
    have q2 : ((E : Int) != 0) = true := by simp; exact h0
    clear h0
    have HP := Lib.hid hP
    have HR := Lib.hid hR
    clear hP hR
    go_enter Tryd.func6, Tryd.ntmps6
    go_wp2_with (first
      | (go_at_call 9; go_loud ((with_reducible refine (HP.out _).mono ?_); unfold dui; rintro e w1 ⟨rfl, hb1⟩))
      | (go_at_call 20; go_loud ((with_reducible refine (HR.out _).mono ?_); unfold dui; rintro e w2 ⟨rfl, hc2⟩; have hbE := bel_step hb1 hc2))
      | (go_at_call 8; go_loud ((with_reducible refine (ex_any _ (hT.below hbE) (hM.below hbE)).mono ?_); rintro e w9 ⟨rfl, hc9⟩; have hb9 := bel_step hbE hc9)))
    go_ret
    exact ⟨rfl, hb9⟩
end Go.Proofs.YtdkbmpncohhioaaDoor
