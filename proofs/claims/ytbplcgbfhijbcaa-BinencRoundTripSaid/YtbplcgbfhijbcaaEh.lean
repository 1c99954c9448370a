import Derived.Test.YtbplcgbfhijbcaaEg
namespace Go.Proofs.Ytbplcgbfhijbcaa
open Go.RowKit
set_option linter.unusedVariables false
set_option linter.unusedSimpArgs false
theorem Ds.cells {w : World} {g : Nat} {l : List (BitVec 8)} {p e : Nat} (h : Ds w g l p e) : w.cell? ⟨g, 1, none⟩ = some (.int .i64 (p : Int)) ∧ w.cell? ⟨g, 2, none⟩ = some (.int .i64 (e : Int)) := by
  obtain ⟨a, c, hc, hr, hne, hrow⟩ := h
  exact ⟨row_cell hrow 1, row_cell hrow 2⟩
theorem uvar_ok (g : Nat) (l : List (BitVec 8)) (p : Nat) (w : World) (hp : p + l.length ≤ 4611686018427387904) (hd : Ds w g l p 0) (hu : uvE l = 0) :
    Calls Try.prog 46 #[.pointer (some ⟨g, 0, none⟩)] w fun e' w' => e' = .returned (.int .u64 (uvV l : Int)) ∧ Ds w' g (l.drop (uvN l)) (p + uvN l) 0 ∧ w.grownBy w' (some g) := by
  refine (uvar_any g l p w hp hd).mono ?_
  rintro e' w' (⟨h1, h2, h3, h4⟩ | ⟨h1, _⟩)
  · exact ⟨h2, h3, h4⟩
  · exact absurd hu h1
theorem uvar_bad (g : Nat) (l : List (BitVec 8)) (p : Nat) (w : World) (hp : p + l.length ≤ 4611686018427387904) (hd : Ds w g l p 0) (hu : uvE l ≠ 0) :
    Calls Try.prog 46 #[.pointer (some ⟨g, 0, none⟩)] w fun e' w' => e' = .returned (.int .u64 0) ∧ (∃ l' p', p' + l'.length = p + l.length ∧ Ds w' g l' p' (uvE l)) ∧ w.grownBy w' (some g) := by
  refine (uvar_any g l p w hp hd).mono ?_
  rintro e' w' (⟨h1, _⟩ | ⟨h1, h2, h3, h4⟩)
  · exact absurd h1 hu
  · exact ⟨h2, h3, h4⟩
theorem uvar_err (g : Nat) (l : List (BitVec 8)) (p e : Nat) (w : World) (hd : Ds w g l p e) (he : e ≠ 0) :
    Calls Try.prog 46 #[.pointer (some ⟨g, 0, none⟩)] w fun e' w' => e' = .returned (.int .u64 0) ∧ w = w' := by
  have h2 := hd.cells.2
  have hb : ((e : Int) == 0) = false := by simp; exact he
  have hb2 : ((e : Int) != 0) = true := by simp; exact he
  clear he
  go_enter Try.func46, Try.ntmps46
  go_wp2
  go_ret
  exact ⟨rfl, rfl⟩
/-- At an offset that is no offset. -/
theorem bu_out (a : Option Addr) (n c : Nat) (at' : Int) (w : World) (hn : n ≤ 4611686018427387904) (hb : at' < 0 ∨ (n : Int) < at') :
    Calls Try.prog 13 #[.slice a n c, .int .i64 at'] w fun e w' => e = tri 0 0 2 ∧ Below w.heap.size w w' := by
  go_enter Try.func13, Try.ntmps13
  go_wp2_with (first | (go_at_call 45; go_loud ((with_reducible refine (newd_bad a n c at' _ hn hb).mono ?_); rintro e1 w1 ⟨rfl, hd1, hb1⟩; obtain ⟨k1, k2⟩ := hd1.cells)) | (go_at_call 46; go_loud ((with_reducible refine (uvar_err _ _ _ _ _ hd1 (by decide)).mono ?_); rintro e1 w2 ⟨rfl, rfl⟩)))
  go_quiet (fail)
  go_wp2
  go_ret3
  exact ⟨rfl, below_drewN hb1 _⟩
theorem bu_ok (a : Option Addr) (n c k : Nat) (l : List (BitVec 8)) (w : World) (hn : l.length = n) (hc : n ≤ c) (hl : n ≤ 4611686018427387904) (hr : Rd w a l) (hk : k ≤ n) (hu : uvE (l.drop k) = 0) :
    Calls Try.prog 13 #[.slice a n c, .int .i64 k] w fun e w' => e = tri (uvV (l.drop k)) ((k + uvN (l.drop k) : Nat) : Int) 0 ∧ Below w.heap.size w w' := by
  have hp : k + (l.drop k).length ≤ 4611686018427387904 := by rw [List.length_drop]; omega
  go_enter Try.func13, Try.ntmps13
  go_wp2_with (first | (go_at_call 45; go_loud ((with_reducible refine (newd_ok a n c k l _ hn hc hl hr hk).mono ?_); rintro e1 w1 ⟨rfl, hd1, hb1⟩)) | (go_at_call 46; go_loud ((with_reducible refine (uvar_ok _ _ _ _ hp hd1 hu).mono ?_); rintro e1 w2 ⟨rfl, hd2, hg2⟩; obtain ⟨k1, k2⟩ := hd2.cells)))
  go_quiet (fail)
  go_wp2
  go_ret3
  exact ⟨rfl, below_drewN (hb1.grown hg2 hb1.size (fun q hq => by cases hq; exact Nat.le_refl _)) _⟩
theorem bu_bad (a : Option Addr) (n c k : Nat) (l : List (BitVec 8)) (w : World) (hn : l.length = n) (hc : n ≤ c) (hl : n ≤ 4611686018427387904) (hr : Rd w a l) (hk : k ≤ n) (hu : uvE (l.drop k) ≠ 0) :
    Calls Try.prog 13 #[.slice a n c, .int .i64 k] w fun e w' => e = tri 0 0 (uvE (l.drop k)) ∧ Below w.heap.size w w' := by
  have hp : k + (l.drop k).length ≤ 4611686018427387904 := by rw [List.length_drop]; omega
  have q1 : (((uvE (l.drop k) : Nat) : Int) == 0) = false := by simp; exact hu
  have q2 : (((uvE (l.drop k) : Nat) : Int) != 0) = true := by simp; exact hu
  have HU := Lib.hid hu
  clear hu
  go_enter Try.func13, Try.ntmps13
  go_wp2_with (first | (go_at_call 45; go_loud ((with_reducible refine (newd_ok a n c k l _ hn hc hl hr hk).mono ?_); rintro e1 w1 ⟨rfl, hd1, hb1⟩)) | (go_at_call 46; go_loud ((with_reducible refine (uvar_bad _ _ _ _ hp hd1 HU.out).mono ?_); rintro e1 w2 ⟨rfl, ⟨l', p', hlp, hd2⟩, hg2⟩; obtain ⟨k1, k2⟩ := hd2.cells)))
  go_quiet (fail)
  go_wp2
  go_ret3
  exact ⟨rfl, below_drewN (hb1.grown hg2 hb1.size (fun q hq => by cases hq; exact Nat.le_refl _)) _⟩
theorem ru_out (a : Option Addr) (n c : Nat) (at' : Int) (w : World) (hn : n ≤ 4611686018427387904) (hb : at' < 0 ∨ (n : Int) < at') :
    Calls Try.prog 14 #[.slice a n c, .int .i64 at'] w fun e w' => e = tri 0 0 2 ∧ w = w' := by
  rcases Int.lt_or_le at' 0 with h | h
  · have hd : decide (at' < 0) = true := by simp [h]
    go_enter Try.func14, Try.ntmps14
    go_wp2
    go_ret3
    exact ⟨rfl, rfl⟩
  · have hd : decide (at' < 0) = false := by simp; omega
    have hd2 : decide ((n : Int) < at') = true := by simp; omega
    go_enter Try.func14, Try.ntmps14
    go_wp2
    go_ret3
    exact ⟨rfl, rfl⟩
theorem ru_ok (a : Option Addr) (n c k : Nat) (l : List (BitVec 8)) (w : World) (hn : l.length = n) (hl : n ≤ 4611686018427387904) (hr : Rd w a l) (hk : k ≤ n) (hu : uvE (l.drop k) = 0) :
    Calls Try.prog 14 #[.slice a n c, .int .i64 k] w fun e w' => e = tri (uvV (l.drop k)) ((k + uvN (l.drop k) : Nat) : Int) 0 ∧ w = w' := by
  refine (ruv_any a n c k l w hn hl hr hk).mono ?_
  rintro e w' ⟨h, ⟨h1, h2⟩ | ⟨h1, h2⟩⟩
  · exact ⟨h2, h⟩
  · exact absurd hu h1
theorem ru_bad (a : Option Addr) (n c k : Nat) (l : List (BitVec 8)) (w : World) (hn : l.length = n) (hl : n ≤ 4611686018427387904) (hr : Rd w a l) (hk : k ≤ n) (hu : uvE (l.drop k) ≠ 0) :
    Calls Try.prog 14 #[.slice a n c, .int .i64 k] w fun e w' => e = tri 0 0 (uvE (l.drop k)) ∧ w = w' := by
  refine (ruv_any a n c k l w hn hl hr hk).mono ?_
  rintro e w' ⟨h, ⟨h1, h2⟩ | ⟨h1, h2⟩⟩
  · exact absurd h1 hu
  · exact ⟨h2, h⟩
end Go.Proofs.Ytbplcgbfhijbcaa
