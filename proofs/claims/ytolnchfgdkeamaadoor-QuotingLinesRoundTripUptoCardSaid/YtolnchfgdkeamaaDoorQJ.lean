import Derived.Test.YtolnchfgdkeamaaDoorQI
import Derived.WalkKit
import Derived.WalkSpells
import Derived.WalkLawsBesides
import Derived.Lib.Hide
import Derived.Below
import Derived.Deep.QuietTactic
import Derived.BigQuiet
import Derived.IntWalk
import Derived.Laws.BitsAllLaws
namespace Go.Proofs.YtolnchfgdkeamaaDoor
open Go.RowKit
set_option linter.unusedVariables false
set_option linter.unusedSimpArgs false
/-- internal/bytealg.MaxLen holds an int, whatever it be. -/
def Mx (w : World) : Prop := ∃ m : Int, w.cell? ⟨0, 0, none⟩ = some (.int .i64 m)
theorem Mx.below {w w' : World} (h : Mx w) (hb : Below w.heap.size w w') : Mx w' := by
  obtain ⟨m, hc⟩ := h
  exact ⟨m, (hb.cell (World.block_lt_of_cell? w _ hc)).trans hc⟩
theorem fields_good (S : ByteArray) (l : List UInt8) (ys : List ByteArray) (w : World) (hS : S.data.toList = l) (hl : l.length ≤ 4000000) (hm : Mx w) (hg : SfGood (fieldsL l) ys) :
    Calls Tryd.prog 15 #[.string S] w fun e w' => ∃ (a : Option Addr) (c : Nat), e = .returned (.tuple #[.slice a ys.length c, .int .i64 0, .int .i64 0]) ∧ RdV w' a (strV ys) ∧ Below w.heap.size w w' := by
  obtain ⟨m, hm⟩ := hm
  refine (fields_any S l m w hS hl hm).mono ?_
  rintro e w' ⟨h, hb⟩
  rcases h with ⟨i, h1, _⟩ | ⟨xs, a, c, h1, h2, h3⟩
  · exact (sf_excl hg h1).elim
  · obtain rfl := good_uniq h1 hg
    exact ⟨a, c, h2, h3, hb⟩
theorem fields_bad (S : ByteArray) (l : List UInt8) (i : Nat) (w : World) (hS : S.data.toList = l) (hl : l.length ≤ 4000000) (hm : Mx w) (hg : SfBad (fieldsL l) i) :
    Calls Tryd.prog 15 #[.string S] w fun e w' => e = .returned (.tuple #[.slice none 0 0, .int .i64 i, .int .i64 3]) ∧ Below w.heap.size w w' := by
  obtain ⟨m, hm⟩ := hm
  refine (fields_any S l m w hS hl hm).mono ?_
  rintro e w' ⟨h, hb⟩
  rcases h with ⟨j, h1, h2⟩ | ⟨xs, a, c, h1, h2, h3⟩
  · obtain rfl := bad_uniq h1 hg
    exact ⟨h2, hb⟩
  · exact (sf_excl h1 hg).elim
theorem rfields_good (S : ByteArray) (l : List UInt8) (ys : List ByteArray) (w : World) (hS : S.data.toList = l) (hl : l.length ≤ 4000000) (hg : SfGood (fieldsL l) ys) :
    Calls Tryd.prog 16 #[.string S] w fun e w' => ∃ (a : Option Addr) (c : Nat), e = .returned (.tuple #[.slice a ys.length c, .int .i64 0, .int .i64 0]) ∧ RdV w' a (strV ys) ∧ Below w.heap.size w w' := by
  refine (rfields_any S l w hS hl).mono ?_
  rintro e w' ⟨h, hb⟩
  rcases h with ⟨i, h1, _⟩ | ⟨xs, a, c, h1, h2, h3⟩
  · exact (sf_excl hg h1).elim
  · obtain rfl := good_uniq h1 hg
    exact ⟨a, c, h2, h3, hb⟩
theorem rfields_bad (S : ByteArray) (l : List UInt8) (i : Nat) (w : World) (hS : S.data.toList = l) (hl : l.length ≤ 4000000) (hg : SfBad (fieldsL l) i) :
    Calls Tryd.prog 16 #[.string S] w fun e w' => e = .returned (.tuple #[.slice none 0 0, .int .i64 i, .int .i64 3]) ∧ Below w.heap.size w w' := by
  refine (rfields_any S l w hS hl).mono ?_
  rintro e w' ⟨h, hb⟩
  rcases h with ⟨j, h1, h2⟩ | ⟨xs, a, c, h1, h2, h3⟩
  · obtain rfl := bad_uniq h1 hg
    exact ⟨h2, hb⟩
  · exact (sf_excl h1 hg).elim
theorem lines_good (S : ByteArray) (l : List UInt8) (ys : List ByteArray) (w : World) (hS : S.data.toList = l) (hl : l.length ≤ 4000000) (hm : Mx w) (hg : LnGood l ys) :
    Calls Tryd.prog 20 #[.string S] w fun e w' => ∃ (a : Option Addr) (c : Nat), e = .returned (.tuple #[.slice a ys.length c, .int .i64 0]) ∧ RdV w' a (strV ys) ∧ Below w.heap.size w w' := by
  obtain ⟨m, hm⟩ := hm
  refine (slines_any S l m w hS hl hm).mono ?_
  rintro e w' ⟨h, hb⟩
  rcases h with ⟨h1, _⟩ | ⟨xs, a, c, h1, h2, h3⟩
  · exact (ln_excl hg h1).elim
  · obtain rfl := ln_uniq h1 hg
    exact ⟨a, c, h2, h3, hb⟩
theorem lines_bad (S : ByteArray) (l : List UInt8) (w : World) (hS : S.data.toList = l) (hl : l.length ≤ 4000000) (hm : Mx w) (hg : LnBad l) :
    Calls Tryd.prog 20 #[.string S] w fun e w' => e = .returned (.tuple #[.slice none 0 0, .int .i64 3]) ∧ Below w.heap.size w w' := by
  obtain ⟨m, hm⟩ := hm
  refine (slines_any S l m w hS hl hm).mono ?_
  rintro e w' ⟨h, hb⟩
  rcases h with ⟨h1, h2⟩ | ⟨xs, a, c, h1, h2, h3⟩
  · exact ⟨h2, hb⟩
  · exact (ln_excl h1 hg).elim
theorem rlines_good (S : ByteArray) (l : List UInt8) (ys : List ByteArray) (w : World) (hS : S.data.toList = l) (hl : l.length ≤ 4000000) (hg : LnGood l ys) :
    Calls Tryd.prog 21 #[.string S] w fun e w' => ∃ (a : Option Addr) (c : Nat), e = .returned (.tuple #[.slice a ys.length c, .int .i64 0]) ∧ RdV w' a (strV ys) ∧ Below w.heap.size w w' := by
  refine (rslines_any S l w hS hl).mono ?_
  rintro e w' ⟨h, hb⟩
  rcases h with ⟨h1, _⟩ | ⟨xs, a, c, h1, h2, h3⟩
  · exact (ln_excl hg h1).elim
  · obtain rfl := ln_uniq h1 hg
    exact ⟨a, c, h2, h3, hb⟩
theorem rlines_bad (S : ByteArray) (l : List UInt8) (w : World) (hS : S.data.toList = l) (hl : l.length ≤ 4000000) (hg : LnBad l) :
    Calls Tryd.prog 21 #[.string S] w fun e w' => e = .returned (.tuple #[.slice none 0 0, .int .i64 3]) ∧ Below w.heap.size w w' := by
  refine (rslines_any S l w hS hl).mono ?_
  rintro e w' ⟨h, hb⟩
  rcases h with ⟨h1, h2⟩ | ⟨xs, a, c, h1, h2, h3⟩
  · exact ⟨h2, hb⟩
  · exact (ln_excl h1 hg).elim
theorem same_yes (xs ys : List ByteArray) (a b : Option Addr) (c d : Nat) (w : World) (ha : RdV w a (strV xs)) (hb : RdV w b (strV ys)) (hx : xs.length ≤ 10000000) (h : xs = ys) :
    Calls Tryd.prog 19 #[.slice a xs.length c, .slice b ys.length d] w fun e w' => e = .returned (.bool true) ∧ Below w.heap.size w w' := by
  refine (same_any xs ys a b c d w ha hb hx).mono ?_
  rintro e w' ⟨rfl, m, rfl⟩
  exact ⟨by rw [decide_eq_true h], be_drewN (Below.refl _ _) m⟩
theorem two_row (x y : ByteArray) (w : World) : RdV (w.alloc (.cells #[.string x, .string y] 9)) (some ⟨w.heap.size, 0, none⟩) (strV [x, y]) := own_vals (litS_own w [x, y] (by simp))
/-- The texts of the chapter's examples. -/
def exL : List UInt8 := [97, 42, 50, 48, 98, 32, 42]
theorem ex1 (w : World) (hm : Mx w) : Calls Tryd.prog 15 #[.string ⟨#[97, 42, 50, 48, 98, 32, 42]⟩] w fun e w' => ∃ (a : Option Addr) (c : Nat), e = .returned (.tuple #[.slice a 2 c, .int .i64 0, .int .i64 0]) ∧ RdV w' a (strV [⟨#[97, 32, 98]⟩, ⟨#[]⟩]) ∧ Below w.heap.size w w' :=
  fields_good ⟨#[97, 42, 50, 48, 98, 32, 42]⟩ [97, 42, 50, 48, 98, 32, 42] [⟨#[97, 32, 98]⟩, ⟨#[]⟩] w rfl (by simp) hm (by unfold SfGood; decide +kernel)
theorem ex2 (w : World) (hm : Mx w) : Calls Tryd.prog 15 #[.string ⟨#[97, 32, 32, 98]⟩] w fun e w' => e = .returned (.tuple #[.slice none 0 0, .int .i64 1, .int .i64 3]) ∧ Below w.heap.size w w' :=
  fields_bad ⟨#[97, 32, 32, 98]⟩ [97, 32, 32, 98] 1 w rfl (by simp) hm (by
    have hW : fieldsL [97, 32, 32, 98] = [[97], [], [98]] := by decide +kernel
    rw [hW]
    refine ⟨by simp, ?_, ?_⟩
    · intro k x hk hx
      obtain rfl : k = 0 := by omega
      simp at hx
      rw [← hx]
      decide +kernel
    · intro x hx
      simp at hx
      rw [hx]
      decide +kernel)
theorem ex3 (w : World) (hm : Mx w) : Calls Tryd.prog 20 #[.string ⟨#[97, 10, 10]⟩] w fun e w' => ∃ (a : Option Addr) (c : Nat), e = .returned (.tuple #[.slice a 2 c, .int .i64 0]) ∧ RdV w' a (strV [⟨#[97]⟩, ⟨#[]⟩]) ∧ Below w.heap.size w w' :=
  lines_good ⟨#[97, 10, 10]⟩ [97, 10, 10] [⟨#[97]⟩, ⟨#[]⟩] w rfl (by simp) hm (.inr ⟨[97, 10], rfl, by decide +kernel⟩)
theorem ex4 (w : World) (hm : Mx w) : Calls Tryd.prog 20 #[.string ⟨#[97]⟩] w fun e w' => e = .returned (.tuple #[.slice none 0 0, .int .i64 3]) ∧ Below w.heap.size w w' :=
  lines_bad ⟨#[97]⟩ [97] w rfl (by simp) hm ⟨by simp, by
    rintro ⟨r, h⟩
    rcases r with _ | ⟨x, r⟩
    · simp at h
    · simp at h⟩
theorem ex5 (w : World) : Calls Tryd.prog 10 #[.string ⟨#[42, 52, 49]⟩] w fun e w' => e = .returned (.tuple #[.string ⟨#[]⟩, .int .i64 3]) ∧ Below w.heap.size w w' := by
  refine (unq_any ⟨#[42, 52, 49]⟩ [42, 52, 49] w rfl (by simp)).mono ?_
  rintro e w' ⟨rfl, hb⟩
  rw [show unqL [42, 52, 49] = none by decide +kernel]
  exact ⟨rfl, hb⟩
theorem ex6 (a : Option Addr) (c : Nat) (w : World) (hr : RdV w a (strV [⟨#[97, 32, 98]⟩, ⟨#[]⟩])) : Calls Tryd.prog 17 #[.slice a 2 c] w fun e w' => e = .returned (.string ⟨#[97, 42, 50, 48, 98, 32, 42]⟩) ∧ Below w.heap.size w w' := by
  refine (jfields_any [⟨#[97, 32, 98]⟩, ⟨#[]⟩] a c w hr (by simp) (by intro x hx; simp at hx; rcases hx with rfl | rfl <;> decide)).mono ?_
  rintro e w' ⟨rfl, hb⟩
  rw [show jfL [⟨#[97, 32, 98]⟩, ⟨#[]⟩] = [97, 42, 50, 48, 98, 32, 42] by decide +kernel]
  exact ⟨rfl, hb⟩
theorem same2 (x y : ByteArray) (a b : Option Addr) (c d : Nat) (w : World) (ha : RdV w a (strV [x, y])) (hb : RdV w b (strV [x, y])) :
    Calls Tryd.prog 19 #[.slice a 2 c, .slice b 2 d] w fun e w' => e = .returned (.bool true) ∧ Below w.heap.size w w' := same_yes [x, y] [x, y] a b c d w ha hb (by simp) rfl
set_option maxRecDepth 50000 in
set_option maxHeartbeats 4000000 in
theorem example_any (w : World) (hm : Mx w) : Calls Tryd.prog 9 #[] w fun e w' => e = .returned (.bool true) ∧ Below w.heap.size w w' := by
  have hb0 := Below.refl w.heap.size w
  have hz0 := hb0.size
  go_enter Tryd.func9, Tryd.ntmps9
  go_wp2_with (first
    | (go_at_call 15; ((with_reducible refine (ex1 _ hm).mono ?_); rintro e w1 ⟨a1, c1, rfl, R1, hb1⟩; have hz1 := hb1.size))
    | (go_at_call 15; ((with_reducible refine (ex2 _ (hm.below hb1)).mono ?_); rintro e w2 ⟨rfl, hb2'⟩; have R2 := R1.below hb2'; have hb2 := hb1.trans (hb2'.mono hz1); have hz2 := hb2.size; clear hb2' R1))
    | (go_at_call 20; ((with_reducible refine (ex3 _ (hm.below hb2)).mono ?_); rintro e w3 ⟨a3, c3, rfl, Q3, hb3'⟩; have R3 := R2.below hb3'; have hb3 := hb2.trans (hb3'.mono hz2); have hz3 := hb3.size; clear hb3' R2))
    | (go_at_call 20; ((with_reducible refine (ex4 _ (hm.below hb3)).mono ?_); rintro e w4 ⟨rfl, hb4'⟩; have R4 := R3.below hb4'; have Q4 := Q3.below hb4'; have hb4 := hb3.trans (hb4'.mono hz3); have hz4 := hb4.size; clear hb4' R3 Q3))
    | (go_at_call 10; ((with_reducible refine (ex5 _).mono ?_); rintro e w5 ⟨rfl, hb5'⟩; have R5 := R4.below hb5'; have Q5 := Q4.below hb5'; have hb5 := hb4.trans (hb5'.mono hz4); have hz5 := hb5.size; clear hb5' R4 Q4))
    | (go_at_call 17; ((with_reducible refine (ex6 _ _ _ (two_row _ _ _)).mono ?_); rintro e w6 ⟨rfl, hb6'⟩; have ha6 := Below.alloc (Below.refl w5.heap.size w5) (Nat.le_refl _) (.cells #[.string ⟨#[97, 32, 98]⟩, .string ⟨#[]⟩] 9); have hc6 := ha6.trans (hb6'.mono ha6.size); have R6 := R5.below hc6; have Q6 := Q5.below hc6; have hb6 := hb5.trans (hc6.mono hz5); have hz6 := hb6.size; clear hb6' ha6 hc6 R5 Q5))
    | (go_at_call 19; (have ha7 := Below.alloc (Below.refl w6.heap.size w6) (Nat.le_refl _) (.cells #[.string ⟨#[97, 32, 98]⟩, .string ⟨#[]⟩] 9); (with_reducible refine (same2 _ _ _ _ _ _ _ (R6.below ha7) (two_row _ _ _)).mono ?_); rintro e w7 ⟨rfl, hb7'⟩; have hc7 := ha7.trans (hb7'.mono ha7.size); have Q7 := Q6.below hc7; have hb7 := hb6.trans (hc7.mono hz6); have hz7 := hb7.size; clear hb7' ha7 hc7 R6 Q6))
    | (go_at_call 19; (have ha8 := Below.alloc (Below.refl w7.heap.size w7) (Nat.le_refl _) (.cells #[.string ⟨#[97]⟩, .string ⟨#[]⟩] 9); (with_reducible refine (same2 _ _ _ _ _ _ _ (Q7.below ha8) (two_row _ _ _)).mono ?_); rintro e w8 ⟨rfl, hb8'⟩; have hc8 := ha8.trans (hb8'.mono ha8.size); have hb8 := hb7.trans (hc8.mono hz7); clear hb8' ha8 hc8 Q7)))
  go_ret
  exact ⟨rfl, hb8⟩
end Go.Proofs.YtolnchfgdkeamaaDoor
