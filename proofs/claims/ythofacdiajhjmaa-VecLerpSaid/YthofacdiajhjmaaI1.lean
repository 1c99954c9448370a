import Derived.Test.YthofacdiajhjmaaN7
import Derived.Test.YthofacdiajhjmaaOrd
import Derived.Deep.RegionHeld3
import Derived.Deep.DrawnRows
import Derived.Deep.DeepFit
import Derived.Laws.BitsAllLaws
namespace Go.Proofs.Ythofacdiajhjmaa
open Go.RowKit
set_option linter.unusedVariables false
set_option linter.unusedSimpArgs false
attribute [local go_sem ↓] Go.wp_at_zero Go.wp_at_succ
/-- A row of digits that lies above all that was there. -/
def RwF (B : Nat) (w : World) (a : Option Addr) (l : List (BitVec 32)) : Prop := Rw w a l ∧ ∀ ad, a = some ad → l ≠ [] → B ≤ ad.block
theorem RwF.of_own {w : World} {base : Nat} {e : TypeId} {a : Option Addr} {n c : Nat} {l : List (BitVec 32)} (h : w.ownsRow base e 1 (.slice a n c) n (bv32 l)) : RwF base w a l := by
  refine ⟨Rw.of_own h, fun ad e hne => ?_⟩
  have hl := h.1
  rw [bv32_len] at hl
  obtain ⟨g, e2, hg⟩ := own_form h (by have := List.length_pos_iff.2 hne; omega)
  rw [e] at e2
  cases e2
  exact hg
theorem RwF.mono {B B' : Nat} {w : World} {a : Option Addr} {l : List (BitVec 32)} (h : RwF B w a l) (hb : B' ≤ B) : RwF B' w a l := ⟨h.1, fun ad e hne => Nat.le_trans hb (h.2 ad e hne)⟩
theorem RwF.below {B : Nat} {w w' : World} {a : Option Addr} {l : List (BitVec 32)} (h : RwF B w a l) (hb : Below w.heap.size w w') : RwF B w' a l := ⟨h.1.below hb, h.2⟩
theorem RwF.set {B b : Nat} {w : World} {a : Option Addr} {l : List (BitVec 32)} (h : RwF B w a l) (hb : b < B) (o : Nat) (v : Value) : RwF B (w.setCell ⟨b, o, none⟩ v) a l := by
  refine ⟨fun k hk => ?_, h.2⟩
  obtain ⟨ad, e, hc⟩ := h.1 k hk
  have := h.2 ad e (by rintro rfl; simp at hk)
  refine ⟨ad, e, ?_⟩
  rw [World.cell?_setCell_far _ _ _ _ (by rw [block_add]; show b ≠ _; omega)]
  exact hc
/-- An integer of unlimited size is returned: its sign and its digits, in a row of its own. -/
def FrI (w : World) (s : Bool) (K : Nat) (e : Ending) (w' : World) : Prop := ∃ a c, e = .returned (.agg #[.bool s, .slice a (canon K).length c]) ∧ RwF w.heap.size w' a (canon K) ∧ Below w.heap.size w w'
theorem canon_len_zero {n : Nat} : (canon n).length = 0 ↔ n = 0 := by
  constructor
  · intro h
    rcases Nat.eq_zero_or_pos n with h0 | h0
    · exact h0
    · have := canon_len_pos h0
      omega
  · rintro rfl
    rw [canon_zero]; rfl
theorem inew_any (s : Bool) (a : Option Addr) (n c : Nat) (l : List (BitVec 32)) (w : World) (hn : l.length = n) (hl : l.length ≤ 10000000) (hr : Rw w a l) :
    Calls Try.prog 44 #[.bool s, .slice a n c] w (FrI w (s && decide (0 < valD l)) (valD l)) := by
  subst hn
  have hnc := canon_val l
  have hb0 := Below.alloc (Below.refl w.heap.size w) (Nat.le_refl _) (.cells #[Value.bool false, Value.slice none 0 0] 43)
  rcases Nat.eq_zero_or_pos (valD l) with h0 | h0
  · have hz : (canon (valD l)).length = 0 := canon_len_zero.2 h0
    rw [hnc] at hz
    have hv : Hid (canon (valD l) = trimD l ∧ (s && decide (0 < valD l)) = false) := ⟨hnc, by rw [h0]; simp⟩
    have HT := Lib.hid hz
    have hnz : decide (0 < (trimD l).length) = false := by rw [hz]; rfl
    have hnz2 : decide ((0 : Int) < ((trimD l).length : Int)) = false := by rw [hz]; rfl
    clear hz
    clear hnc h0
    cases s
    · go_enter Try.func44, Try.ntmps44
      go_wp2_with (go_at_call 49; (with_reducible refine (norm_any _ _ _ l _ rfl hl (hr.below hb0)).mono ?_); rintro e w1 ⟨a1, c1, rfl, hown1, hb1⟩; have k1_r_0 : w1.cell? ⟨w.heap.size, 0, none⟩ = some (.bool false) := bcs hb1 (by first | with_reducible assumption | go_simp); have g1_r_0 : w1.frozen? ⟨w.heap.size, 0, none⟩ = false := bfs hb1 (v := .bool false) (by first | with_reducible assumption | go_simp) (by first | with_reducible assumption | go_simp); have k1_r_1 : w1.cell? ⟨w.heap.size, 1, none⟩ = some (.slice none 0 0) := bcs hb1 (by first | with_reducible assumption | go_simp); have g1_r_1 : w1.frozen? ⟨w.heap.size, 1, none⟩ = false := bfs hb1 (v := .slice none 0 0) (by first | with_reducible assumption | go_simp) (by first | with_reducible assumption | go_simp); have x1_r : ¬ w.heap.size = w1.heap.size := qne k1_r_0; have y1_r : ¬ w1.heap.size = w.heap.size := fun h => qne k1_r_0 h.symm; have q1_r : w.heap.size < w1.heap.size := qlt k1_r_0; have hbw := hb0.trans (hb1.mono hb0.size); have hr1 := RwF.of_own hown1; clear hb1 hown1 hr)
      refine bodyPost_ret (v := .agg #[.bool false, .slice a1 (trimD l).length c1]) (by simp [results, Try.results44, go_sem, *]) rfl ?_
      rw [hv.out.2]
      exact ⟨a1, c1, by rw [hv.out.1], by rw [hv.out.1]; exact ((hr1.set (by simp) 0 _).set (by simp) 1 _).mono (by simp), (hbw.setCell (Nat.le_refl _) _).setCell (Nat.le_refl _) _⟩
    · go_enter Try.func44, Try.ntmps44
      go_wp2_with (go_at_call 49; (with_reducible refine (norm_any _ _ _ l _ rfl hl (hr.below hb0)).mono ?_); rintro e w1 ⟨a1, c1, rfl, hown1, hb1⟩; have k1_r_0 : w1.cell? ⟨w.heap.size, 0, none⟩ = some (.bool false) := bcs hb1 (by first | with_reducible assumption | go_simp); have g1_r_0 : w1.frozen? ⟨w.heap.size, 0, none⟩ = false := bfs hb1 (v := .bool false) (by first | with_reducible assumption | go_simp) (by first | with_reducible assumption | go_simp); have k1_r_1 : w1.cell? ⟨w.heap.size, 1, none⟩ = some (.slice none 0 0) := bcs hb1 (by first | with_reducible assumption | go_simp); have g1_r_1 : w1.frozen? ⟨w.heap.size, 1, none⟩ = false := bfs hb1 (v := .slice none 0 0) (by first | with_reducible assumption | go_simp) (by first | with_reducible assumption | go_simp); have x1_r : ¬ w.heap.size = w1.heap.size := qne k1_r_0; have y1_r : ¬ w1.heap.size = w.heap.size := fun h => qne k1_r_0 h.symm; have q1_r : w.heap.size < w1.heap.size := qlt k1_r_0; have hbw := hb0.trans (hb1.mono hb0.size); have hr1 := RwF.of_own hown1; clear hb1 hown1 hr)
      refine bodyPost_ret (v := .agg #[.bool false, .slice a1 (trimD l).length c1]) (by simp [results, Try.results44, go_sem, *]) rfl ?_
      rw [hv.out.2]
      exact ⟨a1, c1, by rw [hv.out.1], by rw [hv.out.1]; exact ((hr1.set (by simp) 0 _).set (by simp) 1 _).mono (by simp), (hbw.setCell (Nat.le_refl _) _).setCell (Nat.le_refl _) _⟩
  · have hz : 0 < (canon (valD l)).length := canon_len_pos h0
    rw [hnc] at hz
    have hv : Hid (canon (valD l) = trimD l ∧ (s && decide (0 < valD l)) = s) := ⟨hnc, by simp [h0]⟩
    clear hnc h0
    cases s
    · go_enter Try.func44, Try.ntmps44
      go_wp2_with (go_at_call 49; (with_reducible refine (norm_any _ _ _ l _ rfl hl (hr.below hb0)).mono ?_); rintro e w1 ⟨a1, c1, rfl, hown1, hb1⟩; have k1_r_0 : w1.cell? ⟨w.heap.size, 0, none⟩ = some (.bool false) := bcs hb1 (by first | with_reducible assumption | go_simp); have g1_r_0 : w1.frozen? ⟨w.heap.size, 0, none⟩ = false := bfs hb1 (v := .bool false) (by first | with_reducible assumption | go_simp) (by first | with_reducible assumption | go_simp); have k1_r_1 : w1.cell? ⟨w.heap.size, 1, none⟩ = some (.slice none 0 0) := bcs hb1 (by first | with_reducible assumption | go_simp); have g1_r_1 : w1.frozen? ⟨w.heap.size, 1, none⟩ = false := bfs hb1 (v := .slice none 0 0) (by first | with_reducible assumption | go_simp) (by first | with_reducible assumption | go_simp); have x1_r : ¬ w.heap.size = w1.heap.size := qne k1_r_0; have y1_r : ¬ w1.heap.size = w.heap.size := fun h => qne k1_r_0 h.symm; have q1_r : w.heap.size < w1.heap.size := qlt k1_r_0; have hbw := hb0.trans (hb1.mono hb0.size); have hr1 := RwF.of_own hown1; clear hb1 hown1 hr)
      refine bodyPost_ret (v := .agg #[.bool false, .slice a1 (trimD l).length c1]) (by simp [results, Try.results44, go_sem, *]) rfl ?_
      rw [hv.out.2]
      exact ⟨a1, c1, by rw [hv.out.1], by rw [hv.out.1]; exact ((hr1.set (by simp) 0 _).set (by simp) 1 _).mono (by simp), (hbw.setCell (Nat.le_refl _) _).setCell (Nat.le_refl _) _⟩
    · go_enter Try.func44, Try.ntmps44
      go_wp2_with (go_at_call 49; (with_reducible refine (norm_any _ _ _ l _ rfl hl (hr.below hb0)).mono ?_); rintro e w1 ⟨a1, c1, rfl, hown1, hb1⟩; have k1_r_0 : w1.cell? ⟨w.heap.size, 0, none⟩ = some (.bool false) := bcs hb1 (by first | with_reducible assumption | go_simp); have g1_r_0 : w1.frozen? ⟨w.heap.size, 0, none⟩ = false := bfs hb1 (v := .bool false) (by first | with_reducible assumption | go_simp) (by first | with_reducible assumption | go_simp); have k1_r_1 : w1.cell? ⟨w.heap.size, 1, none⟩ = some (.slice none 0 0) := bcs hb1 (by first | with_reducible assumption | go_simp); have g1_r_1 : w1.frozen? ⟨w.heap.size, 1, none⟩ = false := bfs hb1 (v := .slice none 0 0) (by first | with_reducible assumption | go_simp) (by first | with_reducible assumption | go_simp); have x1_r : ¬ w.heap.size = w1.heap.size := qne k1_r_0; have y1_r : ¬ w1.heap.size = w.heap.size := fun h => qne k1_r_0 h.symm; have q1_r : w.heap.size < w1.heap.size := qlt k1_r_0; have hbw := hb0.trans (hb1.mono hb0.size); have hr1 := RwF.of_own hown1; clear hb1 hown1 hr)
      refine bodyPost_ret (v := .agg #[.bool true, .slice a1 (trimD l).length c1]) (by simp [results, Try.results44, go_sem, *]) rfl ?_
      rw [hv.out.2]
      exact ⟨a1, c1, by rw [hv.out.1], by rw [hv.out.1]; exact ((hr1.set (by simp) 0 _).set (by simp) 1 _).mono (by simp), (hbw.setCell (Nat.le_refl _) _).setCell (Nat.le_refl _) _⟩
end Go.Proofs.Ythofacdiajhjmaa
