import Derived.Test.YtbnialhpflaoaaaDoorLa
namespace Go.Proofs.YtbnialhpflaoaaaDoor
open Go.RowKit
set_option linter.unusedVariables false
set_option linter.unusedSimpArgs false
theorem isBl_zero : IsBl 0 0 := ⟨by decide, fun _ => rfl, fun h => absurd h (by omega)⟩
theorem isBl_aux : ∀ (f x : Nat), x < 2 ^ f → IsBl x (Lib.bitLenAux f x)
  | 0, x, h => by
    have : x = 0 := by simpa using h
    subst this
    exact isBl_zero
  | f + 1, x, h => by
    unfold Lib.bitLenAux
    split
    · rename_i h0
      subst h0
      exact isBl_zero
    · rename_i h0
      have ih := isBl_aux f (x / 2) (by rw [Nat.pow_succ] at h; omega)
      generalize Lib.bitLenAux f (x / 2) = b at ih
      refine ⟨?_, fun h => absurd h h0, fun _ => ⟨by omega, ?_⟩⟩
      · rw [Nat.pow_add]
        have := ih.1
        omega
      · rw [Nat.add_sub_cancel_left]
        rcases Nat.eq_zero_or_pos (x / 2) with h1 | h1
        · rw [ih.2.1 h1]
          show 1 ≤ x
          omega
        · obtain ⟨h2, h3⟩ := ih.2.2 h1
          obtain ⟨b', rfl⟩ : ∃ b', b = b' + 1 := ⟨b - 1, by omega⟩
          rw [Nat.add_sub_cancel] at h3
          rw [Nat.pow_succ]
          omega
theorem isBl_len {x : Nat} (h : x < 4294967296) : IsBl x (Lib.bitLen x) := isBl_aux 64 x (by omega)
theorem isBl_32 {x y : Nat} (h : x < 4294967296) (hy : IsBl x y) : y ≤ 32 := by
  rcases Nat.eq_zero_or_pos x with h0 | h0
  · rw [hy.2.1 h0]; omega
  · obtain ⟨h1, h2⟩ := hy.2.2 h0
    rcases Nat.lt_or_ge 32 y with h3 | h3
    · have h4 : 2 ^ 32 ≤ 2 ^ (y - 1) := Nat.pow_le_pow_right (by decide) (by omega)
      omega
    · exact h3
set_option maxRecDepth 50000 in
theorem nbl_any (a : Option Addr) (n c : Nat) (l : List (BitVec 32)) (w : World) (hn : l.length = n) (hnc : n ≤ c) (hl : n ≤ 1000000) (hr : Rw w a l) :
    Calls Tryd.prog 23 #[.slice a n c] w fun e w' => ∃ b : Nat, e = .returned (.int .i64 b) ∧ IsBl (valD l) b ∧ w' = w := by
  subst hn
  have f1 := trim_len_le l
  have hrt := hr.trim
  have T1 : ∀ W, Rw W a l → Calls Tryd.prog 43 #[.slice a l.length c] W fun e w' => e = .returned (.slice a (trimD l).length c) ∧ W = w' := fun W h => trim_any a _ c l W rfl hnc (by omega) h
  have H1 := Lib.hid (T1 w hr)
  have htop := top_pos (valD l)
  rw [canon_val] at htop
  rw [← valD_trim l]
  clear T1 hr
  generalize trimD l = lt at *
  by_cases h0 : lt.length = 0
  · have hv : Hid (valD lt = 0) := by show _ = _; rw [List.length_eq_zero_iff.1 h0]; rfl
    rw [h0] at H1
    clear h0 htop
    go_enter Tryd.func23, Tryd.ntmps23
    go_wp2_with (go_at_call 43; (with_reducible refine H1.out.mono ?_); rintro e w1 ⟨rfl, rfl⟩)
    go_ret
    exact ⟨0, rfl, by rw [hv.out]; exact isBl_zero, rfl⟩
  · have h1 : lt.length - 1 < lt.length := by omega
    have htp := htop (by omega)
    rw [digD_in _ _ h1] at htp
    obtain ⟨ad, rfl, hc⟩ := hrt (lt.length - 1) h1
    have hx := lt[lt.length - 1].isLt
    have hbl := isBl_top lt (by omega)
    obtain ⟨x, hxe⟩ : ∃ x, lt[lt.length - 1].toNat = x := ⟨_, rfl⟩
    rw [hxe] at hc hx htp
    have hy := isBl_len hx
    have hy2 := isBl_32 hx hy
    have hfin := Lib.hid (hbl (Lib.bitLen x) (by rw [hxe]; exact hy) (by rw [hxe]; omega))
    have hlen := Tryd.bits_Len32 (x : Int) w (by omega) (by omega)
    rw [Int.toNat_natCast] at hlen
    have HL := Lib.hid hlen
    clear hlen hbl hy hxe htop
    generalize Lib.bitLen x = y at *
    have hne : ((lt.length : Int) == 0) = false := by rw [beq_eq_false_iff_ne]; omega
    go_enter Tryd.func23, Tryd.ntmps23
    go_wp2_with (first
      | (go_at_call 43; (with_reducible refine H1.out.mono ?_); rintro e w1 ⟨rfl, rfl⟩)
      | (go_at_call 46; (with_reducible refine HL.out.mono ?_); rintro e w1 ⟨rfl, rfl⟩))
    go_ret
    refine ⟨32 * (lt.length - 1) + y, ?_, hfin.out, rfl⟩
    first | rfl | (congr 2; omega) | (simp; omega)
end Go.Proofs.YtbnialhpflaoaaaDoor
