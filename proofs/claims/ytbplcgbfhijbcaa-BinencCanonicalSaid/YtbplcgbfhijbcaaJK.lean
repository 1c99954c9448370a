import Derived.Test.YtbplcgbfhijbcaaJJ
import Derived.Test.YtbplcgbfhijbcaaEm
namespace Go.Proofs.Ytbplcgbfhijbcaa
open Go.RowKit
set_option linter.unusedVariables false
set_option linter.unusedSimpArgs false
attribute [local go_sem ↓] Go.wp_at_zero Go.wp_at_succ
theorem cast_k1 (k : Nat) : ((k + 1 : Nat) : Int) = (k : Int) + 1 := rfl
/-- An error of Rational. -/
def ratE (E : Int) : Ending := .returned (.tuple #[.agg #[.bool false, .slice none 0 0, .bool false, .slice none 0 0], .int .i64 0, .int .i64 E])
theorem rrat_out (a : Option Addr) (n c : Nat) (at' : Int) (w : World) (hn : n ≤ 1000000) (hb : at' < 0 ∨ (n : Int) < at') :
    Calls Try.prog 29 #[.slice a n c, .int .i64 at'] w fun e w' => e = ratE 2 ∧ Below w.heap.size w w' := by
  have hb1 := Below.alloc (Below.refl w.heap.size w) (Nat.le_refl _) (.cells #[Value.bool false, Value.slice none 0 0, Value.bool false, Value.slice none 0 0] 45)
  have hz1 := hb1.size
  have hs : at' < 0 ∨ (0 ≤ at' ∧ (n : Int) < at') := by omega
  clear hb
  rcases hs with h | ⟨h, h2⟩
  all_goals go_enter Try.func29, Try.ntmps29
  all_goals go_wp2
  all_goals refine bodyPost_ret (v := .tuple #[.agg #[.bool false, .slice none 0 0, .bool false, .slice none 0 0], .int .i64 0, .int .i64 2]) (by simp [results, Try.results29, go_sem, *]) rfl ?_
  all_goals exact ⟨rfl, hb1⟩
theorem rrat_end (a : Option Addr) (n c : Nat) (w : World) (hn : n ≤ 1000000) :
    Calls Try.prog 29 #[.slice a n c, .int .i64 n] w fun e w' => e = ratE 4 ∧ Below w.heap.size w w' := by
  have hb1 := Below.alloc (Below.refl w.heap.size w) (Nat.le_refl _) (.cells #[Value.bool false, Value.slice none 0 0, Value.bool false, Value.slice none 0 0] 45)
  have hz1 := hb1.size
  go_enter Try.func29, Try.ntmps29
  go_wp2
  all_goals refine bodyPost_ret (v := .tuple #[.agg #[.bool false, .slice none 0 0, .bool false, .slice none 0 0], .int .i64 0, .int .i64 4]) (by simp [results, Try.results29, go_sem, *]) rfl ?_
  all_goals exact ⟨rfl, hb1⟩
theorem rrat_sign (a : Option Addr) (n c k : Nat) (l : List (BitVec 8)) (w : World) (hn : l.length = n) (hl : n ≤ 1000000) (hr : Rd w a l) (hk : k < n) (h : 1 < byA l k) :
    Calls Try.prog 29 #[.slice a n c, .int .i64 k] w fun e w' => e = ratE 3 ∧ Below w.heap.size w w' := by
  have hb1 := Below.alloc (Below.refl w.heap.size w) (Nat.le_refl _) (.cells #[Value.bool false, Value.slice none 0 0, Value.bool false, Value.slice none 0 0] 45)
  have hz1 := hb1.size
  obtain ⟨ad, rfl, hc⟩ := byA_cell (hr.below hb1) k (by omega)
  obtain ⟨y, hy⟩ : ∃ y, byA l k = y := ⟨_, rfl⟩
  rw [hy] at hc h
  have d1 : ((k : Int) == (n : Int)) = false := by rw [beq_eq_false_iff_ne]; omega
  clear hy hn
  go_enter Try.func29, Try.ntmps29
  go_wp2
  all_goals refine bodyPost_ret (v := .tuple #[.agg #[.bool false, .slice none 0 0, .bool false, .slice none 0 0], .int .i64 0, .int .i64 3]) (by simp [results, Try.results29, go_sem, *]) rfl ?_
  all_goals exact ⟨rfl, hb1⟩
theorem rrat_num (a : Option Addr) (n c k : Nat) (l : List (BitVec 8)) (w : World) (hn : l.length = n) (hl : n ≤ 1000000) (hr : Rd w a l) (hk : k < n) (h : byA l k ≤ 1) (hu : bytE (l.drop (k + 1)) 4096 ≠ 0) :
    Calls Try.prog 29 #[.slice a n c, .int .i64 k] w fun e w' => e = ratE (bytE (l.drop (k + 1)) 4096) ∧ Below w.heap.size w w' := by
  have hb1 := Below.alloc (Below.refl w.heap.size w) (Nat.le_refl _) (.cells #[Value.bool false, Value.slice none 0 0, Value.bool false, Value.slice none 0 0] 45)
  have hz1 := hb1.size
  obtain ⟨ad, rfl, hc⟩ := byA_cell (hr.below hb1) k (by omega)
  obtain ⟨y, hy⟩ : ∃ y, byA l k = y := ⟨_, rfl⟩
  rw [hy] at hc h
  have d1 : ((k : Int) == (n : Int)) = false := by rw [beq_eq_false_iff_ne]; omega
  have hcon := fun W hW => rb_bad (some ad) n c (k + 1) 4096 l W hn (by omega) (by decide) hW (by omega) hu
  obtain ⟨E, hE⟩ : ∃ E, bytE (l.drop (k + 1)) 4096 = E := ⟨_, rfl⟩
  simp only [hE] at hcon
  rw [hE] at hu ⊢
  simp only [cast_k1] at hcon
  have q1 : ((E : Int) == 0) = false := by simp; exact hu
  have q2 : ((E : Int) != 0) = true := by simp; exact hu
  have HC := Lib.hid hcon
  have hr1 := hr.below hb1
  clear hy hn hcon hE hu
  go_enter Try.func29, Try.ntmps29
  go_wp2_with (go_at_call 24; go_loud ((with_reducible refine (HC.out _ hr1).mono ?_); unfold trs; rintro e w2 ⟨rfl, rfl⟩))
  all_goals refine bodyPost_ret (v := .tuple #[.agg #[.bool false, .slice none 0 0, .bool false, .slice none 0 0], .int .i64 0, .int .i64 E]) (by simp [results, Try.results29, go_sem, *]) rfl ?_
  all_goals exact ⟨rfl, hb1⟩
theorem rrat_den (a : Option Addr) (n c k : Nat) (l : List (BitVec 8)) (w : World) (hn : l.length = n) (hl : n ≤ 1000000) (hr : Rd w a l) (hk : k < n) (h : byA l k ≤ 1) (hu : bytE (l.drop (k + 1)) 4096 = 0) (hpl : k + 1 + (uvN (l.drop (k + 1)) + uvV (l.drop (k + 1))) ≤ n) (hu2 : bytE (l.drop (k + 1 + (uvN (l.drop (k + 1)) + uvV (l.drop (k + 1))))) 4096 ≠ 0) :
    Calls Try.prog 29 #[.slice a n c, .int .i64 k] w fun e w' => e = ratE (bytE (l.drop (k + 1 + (uvN (l.drop (k + 1)) + uvV (l.drop (k + 1))))) 4096) ∧ Below w.heap.size w w' := by
  have hb1 := Below.alloc (Below.refl w.heap.size w) (Nat.le_refl _) (.cells #[Value.bool false, Value.slice none 0 0, Value.bool false, Value.slice none 0 0] 45)
  have hz1 := hb1.size
  obtain ⟨ad, rfl, hc⟩ := byA_cell (hr.below hb1) k (by omega)
  obtain ⟨y, hy⟩ : ∃ y, byA l k = y := ⟨_, rfl⟩
  rw [hy] at hc h
  have d1 : ((k : Int) == (n : Int)) = false := by rw [beq_eq_false_iff_ne]; omega
  rw [show bytE (l.drop (k + 1 + (uvN (l.drop (k + 1)) + uvV (l.drop (k + 1))))) 4096 = bytE (l.drop (k + 1 + (uvN (l.drop (k + 1)) + uvV (l.drop (k + 1))))) 4096 from rfl]
  have hcon := fun W hW => rb_ok (some ad) n c (k + 1) 4096 l W hn (by omega) (by decide) hW (by omega) hu
  obtain ⟨N1, hN1⟩ : ∃ z, ((l.drop (k + 1)).drop (uvN (l.drop (k + 1)))).take (uvV (l.drop (k + 1))) = z := ⟨_, rfl⟩
  obtain ⟨V1, hV1⟩ : ∃ z, uvV (l.drop (k + 1)) = z := ⟨_, rfl⟩
  obtain ⟨p1, hp1⟩ : ∃ z, k + 1 + (uvN (l.drop (k + 1)) + uvV (l.drop (k + 1))) = z := ⟨_, rfl⟩
  unfold TkA at hcon
  rw [hp1] at hu2 hpl
  simp only [hN1, hp1] at hcon
  simp only [hV1, cast_k1] at hcon
  have hcon2 := fun W hW => rb_bad (some ad) n c p1 4096 l W hn (by omega) (by decide) hW hpl hu2
  rw [hp1]
  obtain ⟨E, hE⟩ : ∃ E, bytE (l.drop p1) 4096 = E := ⟨_, rfl⟩
  simp only [hE] at hcon2
  rw [hE] at hu2 ⊢
  have q1 : ((E : Int) == 0) = false := by simp; exact hu2
  have q2 : ((E : Int) != 0) = true := by simp; exact hu2
  have HC := Lib.hid hcon
  have HC2 := Lib.hid hcon2
  have hr1 := hr.below hb1
  clear hy hn hcon hcon2 hE hu hu2 hN1 hV1 hp1
  go_enter Try.func29, Try.ntmps29
  go_wp2_with (go_at_call 24; go_loud (first
    | ((with_reducible refine (HC2.out _ hr2).mono ?_); unfold trs; rintro e w3 ⟨rfl, rfl⟩)
    | ((with_reducible refine (HC.out _ hr1).mono ?_); unfold trs; rintro e w2 ⟨a2, c2, rfl, hcc2, hlen2, ho2, hc2⟩; have k2_r_0 : w2.cell? ⟨w.heap.size, 0, none⟩ = some (.bool false) := bcs hc2 (by first | with_reducible assumption | go_simp); have g2_r_0 : w2.frozen? ⟨w.heap.size, 0, none⟩ = false := bfs hc2 (v := .bool false) (by first | with_reducible assumption | go_simp) (by first | with_reducible assumption | go_simp); have k2_r_1 : w2.cell? ⟨w.heap.size, 1, none⟩ = some (.slice none 0 0) := bcs hc2 (by first | with_reducible assumption | go_simp); have g2_r_1 : w2.frozen? ⟨w.heap.size, 1, none⟩ = false := bfs hc2 (v := .slice none 0 0) (by first | with_reducible assumption | go_simp) (by first | with_reducible assumption | go_simp); have k2_r_2 : w2.cell? ⟨w.heap.size, 2, none⟩ = some (.bool false) := bcs hc2 (by first | with_reducible assumption | go_simp); have g2_r_2 : w2.frozen? ⟨w.heap.size, 2, none⟩ = false := bfs hc2 (v := .bool false) (by first | with_reducible assumption | go_simp) (by first | with_reducible assumption | go_simp); have k2_r_3 : w2.cell? ⟨w.heap.size, 3, none⟩ = some (.slice none 0 0) := bcs hc2 (by first | with_reducible assumption | go_simp); have g2_r_3 : w2.frozen? ⟨w.heap.size, 3, none⟩ = false := bfs hc2 (v := .slice none 0 0) (by first | with_reducible assumption | go_simp) (by first | with_reducible assumption | go_simp); have x2_r : ¬ w.heap.size = w2.heap.size := qne k2_r_0; have y2_r : ¬ w2.heap.size = w.heap.size := fun h => qne k2_r_0 h.symm; have q2_r : w.heap.size < w2.heap.size := qlt k2_r_0; have hbw2 := hb1.trans (hc2.mono hz1); have hr2 := hr.below hbw2)))
  all_goals refine bodyPost_ret (v := .tuple #[.agg #[.bool false, .slice none 0 0, .bool false, .slice none 0 0], .int .i64 0, .int .i64 E]) (by simp [results, Try.results29, go_sem, *]) rfl ?_
  all_goals exact ⟨rfl, ((((hbw2.setCell (Nat.le_refl _) _).setCell (Nat.le_refl _) _).setCell (Nat.le_refl _) _).setCell (Nat.le_refl _) _)⟩
end Go.Proofs.Ytbplcgbfhijbcaa
