
import Derived.Test.YtdkbmpncohhioaaDoorU4
import Derived.Test.YtdkbmpncohhioaaDoorU5
import Derived.StillTailTactics
import Derived.Below
import Derived.OneCell
import Derived.Deep.RegionHeld3
/- Z1 -/
namespace Go.Proofs.YtdkbmpncohhioaaDoor
open Go.RowKit
set_option linter.unusedVariables false
set_option linter.unusedSimpArgs false
attribute [local go_sem ↓] Go.wp_at_zero Go.wp_at_succ
/-- The integer with a sign and a magnitude. -/
def zv (s : Bool) (K : Nat) : Int := if s then -(K : Int) else K
theorem zv_abs (s : Bool) (K : Nat) : (zv s K).natAbs = K := by cases s <;> simp [zv]
theorem zv_neg (s : Bool) (K : Nat) : decide (zv s K < 0) = (s && decide (0 < K)) := by cases s <;> simp [zv] <;> omega
theorem zv_of (z : Int) : zv (decide (z < 0)) z.natAbs = z := by
  by_cases h : z < 0
  · rw [show decide (z < 0) = true by simpa using h]; simp [zv]; omega
  · rw [show decide (z < 0) = false by simpa using h]; simp [zv]; omega
theorem zv_canon (z : Int) : zv (decide (z < 0)) (valD (canon z.natAbs)) = z := by rw [valD_canon]; exact zv_of z
theorem zv_not (s : Bool) (K : Nat) : zv (!s) K = -(zv s K) := by cases s <;> simp [zv]
theorem zv_add (s : Bool) (K L : Nat) : zv s (K + L) = zv s K + zv s L := by cases s <;> simp [zv] <;> omega
theorem zv_sub (s t : Bool) (K L : Nat) (hst : s ≠ t) (h : L ≤ K) : zv s (K - L) = zv s K + zv t L := by cases s <;> cases t <;> simp_all [zv] <;> omega
theorem zv_mul (s t : Bool) (K L : Nat) : zv (s != t) (K * L) = zv s K * zv t L := by cases s <;> cases t <;> simp [zv, Int.neg_mul, Int.mul_neg]
theorem zv_zero (s : Bool) : zv s 0 = 0 := by cases s <;> rfl
theorem zv_eq_zero {s : Bool} {K : Nat} : zv s K = 0 ↔ K = 0 := by cases s <;> simp [zv]
/-- An integer is answered: its sign, and its digits in a row of its own. -/
def FrZ (w : World) (z : Int) (e : Ending) (w' : World) : Prop := ∃ a c, e = .returned (.agg #[.bool (decide (z < 0)), .slice a (canon z.natAbs).length c]) ∧ w'.ownsRow w.heap.size 46 1 (.slice a (canon z.natAbs).length c) (canon z.natAbs).length (bv32 (canon z.natAbs)) ∧ Below w.heap.size w w'
theorem FrZ.eq {w w' : World} {y z : Int} {e : Ending} (h : FrZ w y e w') (hz : y = z) : FrZ w z e w' := hz ▸ h
theorem FrZ.mk' {w w' : World} {s : Bool} {K : Nat} {a : Option Addr} {c : Nat} {L : List (BitVec 32)} (hL : canon K = L) (σ : Bool) (hs : (s && decide (0 < K)) = σ) (ho : w'.ownsRow w.heap.size 46 1 (.slice a L.length c) L.length (bv32 L)) (hb : Below w.heap.size w w') : FrZ w (zv s K) (.returned (.agg #[.bool σ, .slice a L.length c])) w' := by
  subst hL hs
  refine ⟨a, c, ?_, ?_, hb⟩
  · rw [zv_abs, zv_neg]
  · rw [zv_abs]; exact ho
/- the same reads, whatever box is written -/
theorem own_set_other {w : World} {base : Nat} {e : TypeId} {a : Option Addr} {n c : Nat} {xs : List Value} (h : w.ownsRow base e 1 (.slice a n c) n xs) {b : Nat} (hb : b < base) (o : Nat) (v : Value) : (w.setCell ⟨b, o, none⟩ v).ownsRow base e 1 (.slice a n c) n xs := ownsRow_setCell_below h hb v
theorem znew_any (s : Bool) (a : Option Addr) (n c : Nat) (l : List (BitVec 32)) (w : World) (hn : l.length = n) (hc : n ≤ c) (hl : n ≤ 1000000) (hr : Rw w a l) :
    Calls Tryd.prog 51 #[.bool s, .slice a n c] w (FrZ w (zv s (valD l))) := by
  subst hn
  have hnc := canon_val l
  have hb0 := Below.alloc (Below.refl w.heap.size w) (Nat.le_refl _) (.cells #[Value.bool false, Value.slice none 0 0] 24)
  rcases Nat.eq_zero_or_pos (valD l) with h0 | h0
  · have hz : (canon (valD l)).length = 0 := canon_len_zero.2 h0
    rw [hnc] at hz
    have hv : Hid (canon (valD l) = trimD l ∧ (s && decide (0 < valD l)) = false) := ⟨hnc, by rw [h0]; simp⟩
    have HT := Lib.hid hz
    have hnz : decide (0 < (trimD l).length) = false := by rw [hz]; rfl
    have hnz2 : decide ((0 : Int) < ((trimD l).length : Int)) = false := by rw [hz]; rfl
    clear hz
    clear hnc h0
    cases s
    · go_enter Tryd.func51, Tryd.ntmps51
      go_wp2_with (go_at_call 55; (with_reducible refine (nnorm_any a _ c l _ rfl hc hl (hr.below hb0)).mono ?_); rintro e w1 ⟨a1, c1, rfl, hown1, hb1⟩; have k1_r_0 : w1.cell? ⟨w.heap.size, 0, none⟩ = some (.bool false) := bcs hb1 (by first | with_reducible assumption | go_simp); have g1_r_0 : w1.frozen? ⟨w.heap.size, 0, none⟩ = false := bfs hb1 (v := .bool false) (by first | with_reducible assumption | go_simp) (by first | with_reducible assumption | go_simp); have k1_r_1 : w1.cell? ⟨w.heap.size, 1, none⟩ = some (.slice none 0 0) := bcs hb1 (by first | with_reducible assumption | go_simp); have g1_r_1 : w1.frozen? ⟨w.heap.size, 1, none⟩ = false := bfs hb1 (v := .slice none 0 0) (by first | with_reducible assumption | go_simp) (by first | with_reducible assumption | go_simp); have x1_r : ¬ w.heap.size = w1.heap.size := qne k1_r_0; have y1_r : ¬ w1.heap.size = w.heap.size := fun h => qne k1_r_0 h.symm; have q1_r : w.heap.size < w1.heap.size := qlt k1_r_0; have hbw := hb0.trans (hb1.mono hb0.size); clear hb1 hr)
      refine bodyPost_ret (v := .agg #[.bool false, .slice a1 (trimD l).length c1]) (by simp [results, Tryd.results51, go_sem, *]) rfl ?_
      exact FrZ.mk' hv.out.1 _ hv.out.2 (own_mono (own_set_other (own_set_other hown1 (by simp) 0 _) (by simp) 1 _) (by simp)) ((hbw.setCell (Nat.le_refl _) _).setCell (Nat.le_refl _) _)
    · go_enter Tryd.func51, Tryd.ntmps51
      go_wp2_with (go_at_call 55; (with_reducible refine (nnorm_any a _ c l _ rfl hc hl (hr.below hb0)).mono ?_); rintro e w1 ⟨a1, c1, rfl, hown1, hb1⟩; have k1_r_0 : w1.cell? ⟨w.heap.size, 0, none⟩ = some (.bool false) := bcs hb1 (by first | with_reducible assumption | go_simp); have g1_r_0 : w1.frozen? ⟨w.heap.size, 0, none⟩ = false := bfs hb1 (v := .bool false) (by first | with_reducible assumption | go_simp) (by first | with_reducible assumption | go_simp); have k1_r_1 : w1.cell? ⟨w.heap.size, 1, none⟩ = some (.slice none 0 0) := bcs hb1 (by first | with_reducible assumption | go_simp); have g1_r_1 : w1.frozen? ⟨w.heap.size, 1, none⟩ = false := bfs hb1 (v := .slice none 0 0) (by first | with_reducible assumption | go_simp) (by first | with_reducible assumption | go_simp); have x1_r : ¬ w.heap.size = w1.heap.size := qne k1_r_0; have y1_r : ¬ w1.heap.size = w.heap.size := fun h => qne k1_r_0 h.symm; have q1_r : w.heap.size < w1.heap.size := qlt k1_r_0; have hbw := hb0.trans (hb1.mono hb0.size); clear hb1 hr)
      refine bodyPost_ret (v := .agg #[.bool false, .slice a1 (trimD l).length c1]) (by simp [results, Tryd.results51, go_sem, *]) rfl ?_
      exact FrZ.mk' hv.out.1 _ hv.out.2 (own_mono (own_set_other (own_set_other hown1 (by simp) 0 _) (by simp) 1 _) (by simp)) ((hbw.setCell (Nat.le_refl _) _).setCell (Nat.le_refl _) _)
  · have hz : 0 < (canon (valD l)).length := canon_len_pos h0
    rw [hnc] at hz
    have hv : Hid (canon (valD l) = trimD l ∧ (s && decide (0 < valD l)) = s) := ⟨hnc, by simp [h0]⟩
    clear hnc h0
    cases s
    · go_enter Tryd.func51, Tryd.ntmps51
      go_wp2_with (go_at_call 55; (with_reducible refine (nnorm_any a _ c l _ rfl hc hl (hr.below hb0)).mono ?_); rintro e w1 ⟨a1, c1, rfl, hown1, hb1⟩; have k1_r_0 : w1.cell? ⟨w.heap.size, 0, none⟩ = some (.bool false) := bcs hb1 (by first | with_reducible assumption | go_simp); have g1_r_0 : w1.frozen? ⟨w.heap.size, 0, none⟩ = false := bfs hb1 (v := .bool false) (by first | with_reducible assumption | go_simp) (by first | with_reducible assumption | go_simp); have k1_r_1 : w1.cell? ⟨w.heap.size, 1, none⟩ = some (.slice none 0 0) := bcs hb1 (by first | with_reducible assumption | go_simp); have g1_r_1 : w1.frozen? ⟨w.heap.size, 1, none⟩ = false := bfs hb1 (v := .slice none 0 0) (by first | with_reducible assumption | go_simp) (by first | with_reducible assumption | go_simp); have x1_r : ¬ w.heap.size = w1.heap.size := qne k1_r_0; have y1_r : ¬ w1.heap.size = w.heap.size := fun h => qne k1_r_0 h.symm; have q1_r : w.heap.size < w1.heap.size := qlt k1_r_0; have hbw := hb0.trans (hb1.mono hb0.size); clear hb1 hr)
      refine bodyPost_ret (v := .agg #[.bool false, .slice a1 (trimD l).length c1]) (by simp [results, Tryd.results51, go_sem, *]) rfl ?_
      exact FrZ.mk' hv.out.1 _ hv.out.2 (own_mono (own_set_other (own_set_other hown1 (by simp) 0 _) (by simp) 1 _) (by simp)) ((hbw.setCell (Nat.le_refl _) _).setCell (Nat.le_refl _) _)
    · go_enter Tryd.func51, Tryd.ntmps51
      go_wp2_with (go_at_call 55; (with_reducible refine (nnorm_any a _ c l _ rfl hc hl (hr.below hb0)).mono ?_); rintro e w1 ⟨a1, c1, rfl, hown1, hb1⟩; have k1_r_0 : w1.cell? ⟨w.heap.size, 0, none⟩ = some (.bool false) := bcs hb1 (by first | with_reducible assumption | go_simp); have g1_r_0 : w1.frozen? ⟨w.heap.size, 0, none⟩ = false := bfs hb1 (v := .bool false) (by first | with_reducible assumption | go_simp) (by first | with_reducible assumption | go_simp); have k1_r_1 : w1.cell? ⟨w.heap.size, 1, none⟩ = some (.slice none 0 0) := bcs hb1 (by first | with_reducible assumption | go_simp); have g1_r_1 : w1.frozen? ⟨w.heap.size, 1, none⟩ = false := bfs hb1 (v := .slice none 0 0) (by first | with_reducible assumption | go_simp) (by first | with_reducible assumption | go_simp); have x1_r : ¬ w.heap.size = w1.heap.size := qne k1_r_0; have y1_r : ¬ w1.heap.size = w.heap.size := fun h => qne k1_r_0 h.symm; have q1_r : w.heap.size < w1.heap.size := qlt k1_r_0; have hbw := hb0.trans (hb1.mono hb0.size); clear hb1 hr)
      refine bodyPost_ret (v := .agg #[.bool true, .slice a1 (trimD l).length c1]) (by simp [results, Tryd.results51, go_sem, *]) rfl ?_
      exact FrZ.mk' hv.out.1 _ hv.out.2 (own_mono (own_set_other (own_set_other hown1 (by simp) 0 _) (by simp) 1 _) (by simp)) ((hbw.setCell (Nat.le_refl _) _).setCell (Nat.le_refl _) _)
theorem zfrom_any (v : Int) (h0 : -9223372036854775808 ≤ v) (h1 : v ≤ 9223372036854775807) (w : World) :
    Calls Tryd.prog 24 #[.int .i64 v] w (FrZ w v) := by
  have hb0 := Below.alloc (Below.refl w.heap.size w) (Nat.le_refl _) (.cells #[Value.bool false, Value.slice none 0 0] 24)
  obtain ⟨n, hn⟩ : ∃ n, v.natAbs = n := ⟨_, rfl⟩
  have HN : Hid (n < 18446744073709551616) := by show _ < _; omega
  by_cases h : v < 0
  · have hw1 : IntKind.u64.wrap (-IntKind.u64.wrap v) = n := by rw [IntKind.wrap_u64, IntKind.wrap_u64]; omega
    have h5 : decide (v < 0) = true := by rw [decide_eq_true_iff]; exact h
    have hz : Hid (v = zv true n ∧ (true && decide (0 < n)) = true) := ⟨by simp [zv]; omega, by simp; omega⟩
    clear hn h0 h1
    go_enter Tryd.func24, Tryd.ntmps24
    go_wp2_with (go_at_call 44; (with_reducible refine (nfrom_any n HN.out _).mono ?_); rintro e w1 ⟨a1, c1, rfl, hown1, hb1⟩; have k1_r_0 : w1.cell? ⟨w.heap.size, 0, none⟩ = some (.bool false) := bcs hb1 (by first | with_reducible assumption | go_simp); have g1_r_0 : w1.frozen? ⟨w.heap.size, 0, none⟩ = false := bfs hb1 (v := .bool false) (by first | with_reducible assumption | go_simp) (by first | with_reducible assumption | go_simp); have k1_r_1 : w1.cell? ⟨w.heap.size, 1, none⟩ = some (.slice none 0 0) := bcs hb1 (by first | with_reducible assumption | go_simp); have g1_r_1 : w1.frozen? ⟨w.heap.size, 1, none⟩ = false := bfs hb1 (v := .slice none 0 0) (by first | with_reducible assumption | go_simp) (by first | with_reducible assumption | go_simp); have x1_r : ¬ w.heap.size = w1.heap.size := qne k1_r_0; have y1_r : ¬ w1.heap.size = w.heap.size := fun h => qne k1_r_0 h.symm; have q1_r : w.heap.size < w1.heap.size := qlt k1_r_0; have hbw := hb0.trans (hb1.mono hb0.size); clear hb1)
    refine bodyPost_ret (v := .agg #[.bool true, .slice a1 (canon n).length c1]) (by simp [results, Tryd.results24, go_sem, *]) rfl ?_
    rw [hz.out.1]
    exact FrZ.mk' rfl _ hz.out.2 (own_mono (own_set_other (own_set_other hown1 (by simp) 0 _) (by simp) 1 _) (by simp)) ((hbw.setCell (Nat.le_refl _) _).setCell (Nat.le_refl _) _)
  · have hw1 : IntKind.u64.wrap v = n := by rw [IntKind.wrap_u64]; omega
    have h5 : decide (v < 0) = false := by rw [decide_eq_false_iff_not]; exact h
    have hz : Hid (v = zv false n ∧ (false && decide (0 < n)) = false) := ⟨by simp [zv]; omega, rfl⟩
    clear hn h0 h1
    go_enter Tryd.func24, Tryd.ntmps24
    go_wp2_with (go_at_call 44; (with_reducible refine (nfrom_any n HN.out _).mono ?_); rintro e w1 ⟨a1, c1, rfl, hown1, hb1⟩; have k1_r_0 : w1.cell? ⟨w.heap.size, 0, none⟩ = some (.bool false) := bcs hb1 (by first | with_reducible assumption | go_simp); have g1_r_0 : w1.frozen? ⟨w.heap.size, 0, none⟩ = false := bfs hb1 (v := .bool false) (by first | with_reducible assumption | go_simp) (by first | with_reducible assumption | go_simp); have k1_r_1 : w1.cell? ⟨w.heap.size, 1, none⟩ = some (.slice none 0 0) := bcs hb1 (by first | with_reducible assumption | go_simp); have g1_r_1 : w1.frozen? ⟨w.heap.size, 1, none⟩ = false := bfs hb1 (v := .slice none 0 0) (by first | with_reducible assumption | go_simp) (by first | with_reducible assumption | go_simp); have x1_r : ¬ w.heap.size = w1.heap.size := qne k1_r_0; have y1_r : ¬ w1.heap.size = w.heap.size := fun h => qne k1_r_0 h.symm; have q1_r : w.heap.size < w1.heap.size := qlt k1_r_0; have hbw := hb0.trans (hb1.mono hb0.size); clear hb1)
    refine bodyPost_ret (v := .agg #[.bool false, .slice a1 (canon n).length c1]) (by simp [results, Tryd.results24, go_sem, *]) rfl ?_
    rw [hz.out.1]
    exact FrZ.mk' rfl _ hz.out.2 (own_mono (own_set_other (own_set_other hown1 (by simp) 0 _) (by simp) 1 _) (by simp)) ((hbw.setCell (Nat.le_refl _) _).setCell (Nat.le_refl _) _)
end Go.Proofs.YtdkbmpncohhioaaDoor

/- Z2 -/
namespace Go.Proofs.YtdkbmpncohhioaaDoor
open Go.RowKit
set_option linter.unusedVariables false
set_option linter.unusedSimpArgs false
attribute [local go_sem ↓] Go.wp_at_zero Go.wp_at_succ
end Go.Proofs.YtdkbmpncohhioaaDoor

/- Z3 -/
namespace Go.Proofs.YtdkbmpncohhioaaDoor
open Go.RowKit
set_option linter.unusedVariables false
set_option linter.unusedSimpArgs false
attribute [local go_sem ↓] Go.wp_at_zero Go.wp_at_succ
end Go.Proofs.YtdkbmpncohhioaaDoor

/- Z4 -/
namespace Go.Proofs.YtdkbmpncohhioaaDoor
open Go.RowKit
set_option linter.unusedVariables false
set_option linter.unusedSimpArgs false
attribute [local go_sem ↓] Go.wp_at_zero Go.wp_at_succ
/-- The reference's answer: an integer, its digits above all that was there. -/
def FrQ (w : World) (z : Int) (e : Ending) (w' : World) : Prop := ∃ a c, e = .returned (.agg #[.bool (decide (z < 0)), .slice a (canon z.natAbs).length c]) ∧ RwF w.heap.size w' a (canon z.natAbs) ∧ Below w.heap.size w w'
theorem FrI.q {w w' : World} {s σ : Bool} {K : Nat} {e : Ending} (h : FrI w σ K e w') (hσ : σ = (s && decide (0 < K))) : FrQ w (zv s K) e w' := by
  subst hσ
  obtain ⟨a, c, h1, h2, h3⟩ := h
  exact ⟨a, c, by rw [zv_abs, zv_neg]; exact h1, by rw [zv_abs]; exact h2, h3⟩
theorem FrQ.eq {w w' : World} {y z : Int} {e : Ending} (h : FrQ w y e w') (hz : y = z) : FrQ w z e w' := hz ▸ h
theorem sgV_sign (s : Bool) (K : Nat) : sgV s K = (zv s K).sign := by
  unfold sgV zv
  rcases Nat.eq_zero_or_pos K with h | h
  · subst h; cases s <;> rfl
  · cases s
    · rw [if_neg (by omega)]; exact (Int.sign_eq_one_of_pos (by simpa using h)).symm
    · rw [if_neg (by omega)]; exact (Int.sign_eq_neg_one_of_neg (by simp; omega)).symm
theorem fit_zsub {s t : Bool} {l k : List (BitVec 32)} (hl : l.length ≤ 400000) (hk : k.length ≤ 400000) : (canon (zv s (valD l) - zv t (valD k)).natAbs).length ≤ 400001 := by
  rw [canon_len_le]
  have e1 := valD_lt l
  have e2 := valD_lt k
  have e3 := pw_mono hl
  have e4 := pw_mono hk
  have e5 : pw (400000 + 1) = pw 400000 * 4294967296 := pw_succ 400000
  have e6 : (zv s (valD l) - zv t (valD k)).natAbs ≤ valD l + valD k := by cases s <;> cases t <;> simp [zv] <;> omega
  show _ < pw (400000 + 1)
  omega
end Go.Proofs.YtdkbmpncohhioaaDoor

