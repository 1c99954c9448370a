
import Derived.Test.YtdkbmpncohhioaaGreatDoorNt5
namespace Go.Proofs.YtdkbmpncohhioaaGreatDoor
open Go.RowKit
set_option linter.unusedVariables false
set_option linter.unusedSimpArgs false
attribute [local go_sem ↓] Go.wp_at_zero Go.wp_at_succ
theorem nin_w (nn : Int) (S : ByteArray) (lo hi : Int) (w : World) (h0 : -9223372036854775808 ≤ nn) (h9 : nn ≤ 9223372036854775807) (hsz9 : S.size ≤ 9223372036854775807) (hT : Tb w) (hM : Mx w) :
    Calls Tryz.prog 3 #[.int .i64 nn, .string S, .int .i64 lo, .int .i64 hi] w fun e w' => e = .returned (.bool true) ∧ Below w.heap.size w w' := by
  obtain ⟨l, hS⟩ : ∃ l, S.data.toList = l := ⟨_, rfl⟩
  have hsz := str_size hS
  obtain ⟨n, hn⟩ : ∃ n, S.size = n := ⟨_, rfl⟩
  rw [hn] at hsz hsz9
  by_cases hbig : 1100 < n
  · clear hS hsz
    go_enter Tryz.func3, Tryz.ntmps3
    go_wp2_with (go_at_call 6; go_loud ((with_reducible refine (ex_any _ hT hM).mono ?_); rintro e w9 ⟨rfl, hb9⟩))
    go_ret
    exact ⟨rfl, hb9⟩
  have hP := fun W => pint_any S l W hS (by omega)
  have hQ := fun W => rpint_any S l W hS (by omega)
  have hR := fun W => pir_any S l lo hi W hS (by omega)
  have hT2 := fun W => rpir_any S l lo hi W hS (by omega)
  have hF := fun W h => fmti_any nn W h0 h9 h
  have hG := fun W => rfmti_any nn W h0 h9
  unfold sv at hF hG
  obtain ⟨E, hE⟩ : ∃ E, iE l = E := ⟨_, rfl⟩
  obtain ⟨V, hV⟩ : ∃ V, iV l = V := ⟨_, rfl⟩
  obtain ⟨E2, hE2⟩ : ∃ E, irE l lo hi = E := ⟨_, rfl⟩
  obtain ⟨V2, hV2⟩ : ∃ V, irV l lo hi = V := ⟨_, rfl⟩
  obtain ⟨D, hD⟩ : ∃ D : ByteArray, (⟨(zfmt nn).toArray⟩ : ByteArray) = D := ⟨_, rfl⟩
  simp only [hE, hV] at hP hQ
  simp only [hE2, hV2] at hR hT2
  simp only [hD] at hF hG
  have HP := Lib.hid hP
  have HQ := Lib.hid hQ
  have HR := Lib.hid hR
  have HT2 := Lib.hid hT2
  have HF := Lib.hid hF
  have HG := Lib.hid hG
  clear hP hQ hR hT2 hF hG hE hV hE2 hV2 hD hS hsz
  go_enter Tryz.func3, Tryz.ntmps3
  go_wp2_with (first
    | (go_at_call 7; go_loud ((with_reducible refine (HP.out _).mono ?_); unfold dui; rintro e w1 ⟨rfl, hc1⟩; have hb1 := hc1))
    | (go_at_call 8; go_loud ((with_reducible refine (HQ.out _).mono ?_); unfold dui; rintro e w2 ⟨rfl, hc2⟩; have hb2 := bel_step hb1 hc2))
    | (go_at_call 9; go_loud ((with_reducible refine (HR.out _).mono ?_); unfold dui; rintro e w3 ⟨rfl, hc3⟩; have hb3 := bel_step hb2 hc3))
    | (go_at_call 10; go_loud ((with_reducible refine (HT2.out _).mono ?_); unfold dui; rintro e w4 ⟨rfl, hc4⟩; have hb4 := bel_step hb3 hc4))
    | (go_at_call 11; go_loud ((with_reducible refine (HF.out _ (hT.below hb4)).mono ?_); rintro e w5 ⟨rfl, hc5⟩; have hb5 := bel_step hb4 hc5))
    | (go_at_call 12; go_loud ((with_reducible refine (HG.out _).mono ?_); rintro e w6 ⟨rfl, hc6⟩; have hbE := bel_step hb5 hc6))
    | (go_at_call 6; go_loud ((with_reducible refine (ex_any _ (hT.below hbE) (hM.below hbE)).mono ?_); rintro e w9 ⟨rfl, hc9⟩; have hb9 := bel_step hbE hc9)))
  go_ret
  exact ⟨rfl, hb9⟩
end Go.Proofs.YtdkbmpncohhioaaGreatDoor
