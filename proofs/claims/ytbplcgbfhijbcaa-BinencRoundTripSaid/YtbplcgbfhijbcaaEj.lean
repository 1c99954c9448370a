import Derived.Test.YtbplcgbfhijbcaaEi
namespace Go.Proofs.Ytbplcgbfhijbcaa
open Go.RowKit
set_option linter.unusedVariables false
set_option linter.unusedSimpArgs false
/-- The error of a length. -/
def lenE (l : List (BitVec 8)) (most : Int) : Nat := if uvE l ≠ 0 then uvE l else if most < 0 ∨ most < (uvV l : Int) then 5 else 0
/-- The error of a byte string. -/
def bytE (l : List (BitVec 8)) (most : Int) : Nat := if lenE l most ≠ 0 then lenE l most else if l.length < uvN l + uvV l then 4 else 0
theorem lenE_ok {l : List (BitVec 8)} {most : Int} (h : lenE l most = 0) : uvE l = 0 ∧ 0 ≤ most ∧ (uvV l : Int) ≤ most := by
  unfold lenE at h
  split at h
  · omega
  · split at h
    · omega
    · omega
theorem lenE_bad {l : List (BitVec 8)} {most : Int} (h : uvE l ≠ 0) : lenE l most = uvE l := by unfold lenE; rw [if_pos h]
theorem lenE_lim {l : List (BitVec 8)} {most : Int} (h : uvE l = 0) (h2 : most < 0 ∨ most < (uvV l : Int)) : lenE l most = 5 := by unfold lenE; rw [if_neg (by omega), if_pos h2]
theorem lenE_fine {l : List (BitVec 8)} {most : Int} (h : uvE l = 0) (h2 : ¬ (most < 0 ∨ most < (uvV l : Int))) : lenE l most = 0 := by unfold lenE; rw [if_neg (by omega), if_neg h2]
theorem clone8_nil (c : Nat) (w : World) : Calls Try.prog 71 #[.slice none 0 c] w fun e w' => e = .returned (.slice none 0 0) ∧ w = w' := by
  have he := fun w => Lib.run_eql_slice_nil (P := Try.prog) w 23 5 none 0 c 0 0 Try.underlying23
  go_enter Try.func71, Try.ntmps71
  go_wp2
  go_ret
  exact ⟨rfl, rfl⟩
theorem clone8_some (ad : Addr) (n c : Nat) (l : List (BitVec 8)) (w : World) (hn : l.length = n) (hl : l.length ≤ 100000000) (hr : Rd w (some ad) l) :
    Calls Try.prog 71 #[.slice (some ad) n c] w (FrB w l) := by
  subst hn
  have he := fun w => Lib.run_eql_slice_nil (P := Try.prog) w 23 5 (some ad) l.length c 0 0 Try.underlying23
  have hown := fresh_row8 w
  have hb : Below w.heap.size w (w.alloc (.cells #[] 5)) := Below.alloc (Below.refl _ _) (Nat.le_refl _) _
  have hrb := hr.below hb
  have hs := hb.size
  have hn0 : 0 + l.length ≤ 100000000 := by omega
  go_enter Try.func71, Try.ntmps71
  go_wp2_with (at_builtin; go_loud (refine wpList_apps8 (B := w.heap.size) (l := []) rfl _ _ rfl hown hs (k := l) rfl hrb hn0 rfl rfl ?_; intro v' w2 hown2 hb2))
  go_ret
  rw [Nat.zero_add, List.nil_append] at hown2
  exact FrB.mk' rfl hown2 (hb.trans hb2)
theorem clone8_any (a : Option Addr) (n c : Nat) (l : List (BitVec 8)) (w : World) (hn : l.length = n) (hl : l.length ≤ 100000000) (hr : Rd w a l) :
    Calls Try.prog 71 #[.slice a n c] w (FrB w l) := by
  rcases a with _ | ad
  · rcases l with _ | ⟨x, t⟩
    · simp at hn; subst hn
      refine (clone8_nil c w).mono ?_
      rintro e w' ⟨rfl, rfl⟩
      exact ⟨none, 0, rfl, Nat.le_refl _, nil_row8 _ _, Below.refl _ _⟩
    · obtain ⟨_, e, _⟩ := hr 0 (by simp)
      cases e
  · exact clone8_some ad n c l w hn hl hr
theorem dlen_ok (g : Nat) (l : List (BitVec 8)) (p : Nat) (most : Int) (w : World) (hp : p + l.length ≤ 4611686018427387904) (hm : most ≤ 9223372036854775807) (hd : Ds w g l p 0) (hu : lenE l most = 0) :
    Calls Try.prog 67 #[.pointer (some ⟨g, 0, none⟩), .int .i64 most] w fun e' w' => e' = .returned (.int .i64 (uvV l)) ∧ Ds w' g (l.drop (uvN l)) (p + uvN l) 0 ∧ w.grownBy w' (some g) := by
  obtain ⟨h1, h2, h3⟩ := lenE_ok hu
  obtain ⟨x, hx⟩ : ∃ x, uvV l = x := ⟨_, rfl⟩
  rw [hx] at h3
  have HX := Lib.hid hx
  have d1 : decide (most < 0) = false := by simp; omega
  have d2 : decide (most < (x : Int)) = false := by simp; omega
  clear hx
  go_enter Try.func67, Try.ntmps67
  go_wp2_with ((go_at_call 46; go_loud ((with_reducible refine (uvar_ok _ _ _ _ hp hd h1).mono ?_); rw [HX.out]; rintro e1 w2 ⟨rfl, hd2, hg2⟩; obtain ⟨k1, k2⟩ := hd2.cells)))
  go_ret
  exact ⟨by rw [HX.out]; rfl, hd2, hg2⟩
theorem dlen_bad (g : Nat) (l : List (BitVec 8)) (p : Nat) (most : Int) (w : World) (hp : p + l.length ≤ 4611686018427387904) (hm : most ≤ 9223372036854775807) (hd : Ds w g l p 0) (hu : lenE l most ≠ 0) :
    Calls Try.prog 67 #[.pointer (some ⟨g, 0, none⟩), .int .i64 most] w fun e' w' => e' = .returned (.int .i64 0) ∧ (∃ l' p', p' + l'.length = p + l.length ∧ Ds w' g l' p' (lenE l most)) ∧ w.grownBy w' (some g) := by
  by_cases h1 : uvE l = 0
  · by_cases h2 : most < 0 ∨ most < (uvV l : Int)
    · have hlen := uvE_len l h1
      obtain ⟨x, hx⟩ : ∃ x, uvV l = x := ⟨_, rfl⟩
      rw [lenE_lim h1 h2]
      rw [hx] at h2
      have HX := Lib.hid hx
      clear hx hu
      rcases Int.lt_or_le most 0 with h3 | h3
      · have d1 : decide (most < 0) = true := by simp; omega
        clear h2
        go_enter Try.func67, Try.ntmps67
        go_wp2_with (first | (go_at_call 46; go_loud ((with_reducible refine (uvar_ok _ _ _ _ hp hd h1).mono ?_); rw [HX.out]; rintro e1 w2 ⟨rfl, hd2, hg2⟩; obtain ⟨k1, k2⟩ := hd2.cells)) | (go_at_call 50; go_loud ((with_reducible refine (fail_any _ _ _ _ 5 _ _ lit5 hd2).mono ?_); rintro e1 w3 ⟨rfl, hd3, hg3⟩; obtain ⟨k3, k4⟩ := hd3.cells)))
        go_ret
        exact ⟨rfl, ⟨_, _, by rw [List.length_drop]; omega, hd3⟩, grown_trans hg2 hg3⟩
      · have h4 : most < (x : Int) := by omega
        have d1 : decide (most < 0) = false := by simp; omega
        have d2 : decide (most < (x : Int)) = true := by simp; omega
        clear h2
        go_enter Try.func67, Try.ntmps67
        go_wp2_with (first | (go_at_call 46; go_loud ((with_reducible refine (uvar_ok _ _ _ _ hp hd h1).mono ?_); rw [HX.out]; rintro e1 w2 ⟨rfl, hd2, hg2⟩; obtain ⟨k1, k2⟩ := hd2.cells)) | (go_at_call 50; go_loud ((with_reducible refine (fail_any _ _ _ _ 5 _ _ lit5 hd2).mono ?_); rintro e1 w3 ⟨rfl, hd3, hg3⟩; obtain ⟨k3, k4⟩ := hd3.cells)))
        go_ret
        exact ⟨rfl, ⟨_, _, by rw [List.length_drop]; omega, hd3⟩, grown_trans hg2 hg3⟩
    · exact absurd (lenE_fine h1 h2) hu
  · rw [lenE_bad h1]
    have q1 : (((uvE l : Nat) : Int) == 0) = false := by simp; exact h1
    have q2 : (((uvE l : Nat) : Int) != 0) = true := by simp; exact h1
    have HU := Lib.hid h1
    clear h1 hu
    go_enter Try.func67, Try.ntmps67
    go_wp2_with ((go_at_call 46; go_loud ((with_reducible refine (uvar_bad _ _ _ _ hp hd HU.out).mono ?_); rintro e1 w2 ⟨rfl, ⟨l', p', hlp, hd2⟩, hg2⟩; obtain ⟨k1, k2⟩ := hd2.cells)))
    go_ret
    exact ⟨rfl, ⟨_, _, hlp, hd2⟩, hg2⟩
theorem dlen_err (g : Nat) (l : List (BitVec 8)) (p e : Nat) (most : Int) (w : World) (hd : Ds w g l p e) (he : e ≠ 0) :
    Calls Try.prog 67 #[.pointer (some ⟨g, 0, none⟩), .int .i64 most] w fun e' w' => e' = .returned (.int .i64 0) ∧ w = w' := by
  obtain ⟨k1, k2⟩ := hd.cells
  have q1 : ((e : Int) == 0) = false := by simp; exact he
  have q2 : ((e : Int) != 0) = true := by simp; exact he
  have HU := Lib.hid he
  clear he
  go_enter Try.func67, Try.ntmps67
  go_wp2_with ((go_at_call 46; go_loud ((with_reducible refine (uvar_err _ _ _ _ _ hd HU.out).mono ?_); rintro e1 w2 ⟨rfl, rfl⟩)))
  go_ret
  exact ⟨rfl, rfl⟩
end Go.Proofs.Ytbplcgbfhijbcaa
